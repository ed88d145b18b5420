package rtt

import (
	"fmt"
	"math"
	"math/big"
	"math/rand"
	"testing"
)

// back stands for a Back in a list of steps; each other number there is a Sample of it.
const back = math.MinInt64 + 12345

// told is all that r tells.
func told(r *Rtt) string {
	n, ok := r.Smooth()
	return fmt.Sprint(n, ok, r.Rto())
}

func do(r *Rtt, steps ...int64) {
	for _, s := range steps {
		if s == back {
			r.Back()
		} else {
			r.Sample(s)
		}
	}
}

// of is a new one that was told the steps.
func of(steps ...int64) *Rtt {
	r := New()
	do(r, steps...)
	return r
}

// model is the chapter once more, in numbers that have no end; without a sample smooth is nil.
type model struct {
	smooth, spread *big.Int
	backs          int // since the last sample
}

func held(x *big.Int, least, most int64) *big.Int {
	switch {
	case x.Cmp(big.NewInt(least)) < 0:
		return big.NewInt(least)
	case x.Cmp(big.NewInt(most)) > 0:
		return big.NewInt(most)
	}
	return x
}

// part is the whole part of (k times x and y) by d.
func part(k int64, x, y *big.Int, d int64) *big.Int {
	sum := new(big.Int).Mul(big.NewInt(k), x)
	sum.Add(sum, y)
	return sum.Quo(sum, big.NewInt(d))
}

func (m *model) do(s int64) {
	if s == back {
		m.backs++
		return
	}
	m.backs = 0
	d := held(big.NewInt(s), 0, 64000000)
	if m.smooth == nil {
		m.smooth, m.spread = d, part(1, d, new(big.Int), 2)
		return
	}
	difference := new(big.Int).Sub(m.smooth, d)
	m.spread = part(3, m.spread, difference.Abs(difference), 4)
	m.smooth = part(7, m.smooth, d, 8)
}

// Rto doubled and held again and again is Rto doubled so often and held once.
func (m *model) told() string {
	rto, smooth := big.NewInt(3000000), new(big.Int)
	if m.smooth != nil {
		smooth = m.smooth
		more := new(big.Int).Mul(m.spread, big.NewInt(4))
		if more.Cmp(big.NewInt(1000)) < 0 {
			more.SetInt64(1000)
		}
		rto = held(more.Add(more, smooth), 200000, 64000000)
	}
	rto = held(new(big.Int).Lsh(rto, uint(m.backs)), 0, 64000000)
	return fmt.Sprint(smooth, m.smooth != nil, rto)
}

// check holds a new one against the model at each of the steps.
func check(t *testing.T, steps ...int64) {
	t.Helper()
	r, m := New(), new(model)
	for i, s := range steps {
		do(r, s)
		m.do(s)
		if got, want := told(r), m.told(); got != want {
			t.Fatalf("P12.1: behind %d: %s, not %s", steps[:i+1], got, want)
		}
	}
}

// edges are samples at which something turns: beside 0, where 4 times the spread comes to 1,000, where Rto leaves its least and comes to its greatest, beside the longest sample, at the ends of 32, 62 and 64 bits.
func edges() []int64 {
	ns := []int64{math.MinInt64, math.MinInt64 + 1, -1 << 32, -64000001, -64000000, -200000, -8, -1, math.MaxInt64 - 1, math.MaxInt64}
	for d := range int64(10) {
		ns = append(ns, d)
	}
	for _, n := range []int64{250, 500, 1000, 66667, 100000, 199000, 200000, 1000000, 3000000, 21333333, 32000000, 63999000, 64000000, 1 << 31, 1 << 32, 1 << 61, 1 << 62} {
		ns = append(ns, n-2, n-1, n, n+1, n+2)
	}
	return ns
}

func TestNamed(t *testing.T) {
	for _, c := range []struct {
		name  string
		steps []int64
		want  string
	}{
		{"ahead of any sample", nil, "0 false 3000000"},
		{"ahead of any sample, backed", []int64{back}, "0 false 6000000"},
		{"ahead of any sample, backed four times", []int64{back, back, back, back}, "0 false 48000000"},
		{"ahead of any sample, backed to the greatest", []int64{back, back, back, back, back}, "0 false 64000000"},
		{"one sample: the spread is its half", []int64{1000000}, "1000000 true 3000000"},
		{"one odd sample: the whole half", []int64{1000001}, "1000001 true 3000001"},
		{"one more than that", []int64{1000002}, "1000002 true 3000006"},
		{"a longer one", []int64{1000000, 1200000}, "1025000 true 2725000"},
		{"a shorter one", []int64{1000000, 800000}, "975000 true 2675000"},
		{"the spread is a whole quarter: 3 of it and 3", []int64{400000, 400003}, "400000 true 1000000"},
		{"the spread is a whole quarter: 3 of it and 4", []int64{400000, 400004}, "400000 true 1000004"},
		{"the difference is of the smooth one ahead of this sample", []int64{800000, 0}, "700000 true 2700000"},
		{"the smooth one is a whole eighth: 7 of it and 7 more", []int64{1000000, 1000007}, "1000000 true 2500004"},
		{"the smooth one is a whole eighth: 7 of it and 8 more", []int64{1000000, 1000008}, "1000001 true 2500009"},
		{"the smooth one is a whole eighth: 7 of it and 1 less", []int64{1000000, 999999}, "999999 true 2499999"},
		{"the first one is 0", []int64{0}, "0 true 200000"},
		{"the first one is 0, and then not", []int64{0, 800000}, "100000 true 900000"},
		{"below 0 is as 0", []int64{-1, 800000}, "100000 true 900000"},
		{"far below 0 is as 0", []int64{math.MinInt64, 800000}, "100000 true 900000"},
		{"a later one below 0 is as 0", []int64{800000, -800000}, "700000 true 2700000"},
		{"the longest", []int64{64000000}, "64000000 true 64000000"},
		{"longer than the longest", []int64{64000001}, "64000000 true 64000000"},
		{"by far", []int64{math.MaxInt64}, "64000000 true 64000000"},
		{"a later one longer than the longest", []int64{0, 64000001}, "8000000 true 64000000"},
		{"a later one, by far", []int64{0, math.MaxInt64}, "8000000 true 64000000"},
		{"from the longest to 0", []int64{64000000, 0}, "56000000 true 64000000"},
		{"the least Rto, just met from below", []int64{66667}, "66667 true 200000"},
		{"the least Rto, just left", []int64{66668}, "66668 true 200004"},
		{"just below the greatest Rto", []int64{21333333}, "21333333 true 63999997"},
		{"just above the greatest Rto", []int64{21333334}, "21333334 true 64000000"},
		{"the least Rto is what is doubled", []int64{0, back}, "0 true 400000"},
		{"doubled twice", []int64{1000000, back, back}, "1000000 true 12000000"},
		{"doubled to just below the greatest", []int64{10666666, back}, "10666666 true 63999996"},
		{"doubled beyond the greatest", []int64{10666668, back}, "10666668 true 64000000"},
		{"the greatest doubled", []int64{64000000, back}, "64000000 true 64000000"},
		{"a sample behind doubling", []int64{1000000, back, back, 1200000}, "1025000 true 2725000"},
		{"the first sample behind doubling", []int64{back, back, 1000000}, "1000000 true 3000000"},
		{"the same sample behind doubling", []int64{0, back, 0}, "0 true 200000"},
		{"doubled again behind a sample", []int64{back, back, back, 1000000, back}, "1000000 true 6000000"},
	} {
		if got := told(of(c.steps...)); got != c.want {
			t.Errorf("P12.1: %s: %s, not %s", c.name, got, c.want)
		}
	}
}

// Where all samples are alike the spread goes down, and what Rto has above the smooth one stays at 1,000.
func TestSlack(t *testing.T) {
	for _, d := range []int64{200000, 500000, 63998999, 63999000} {
		r := New()
		for range 200 {
			r.Sample(d)
		}
		if got, want := told(r), fmt.Sprint(d, true, d+1000); got != want {
			t.Errorf("P12.1: %d again and again: %s, not %s", d, got, want)
		}
	}
	for _, d := range []int64{63999001, 64000000} {
		r := New()
		for range 200 {
			r.Sample(d)
		}
		if got, want := told(r), fmt.Sprint(d, true, 64000000); got != want {
			t.Errorf("P12.1: %d again and again: %s, not %s", d, got, want)
		}
	}
	for _, d := range []int64{0, 1, 198999, 199000} {
		r := New()
		for range 200 {
			r.Sample(d)
		}
		if got, want := told(r), fmt.Sprint(d, true, 200000); got != want {
			t.Errorf("P12.1: %d again and again: %s, not %s", d, got, want)
		}
	}
}

func TestFirst(t *testing.T) {
	for d := range int64(70000) {
		check(t, d)
	}
	for _, d := range edges() {
		check(t, d, back, back, d, d, back, d+1)
	}
}

func TestEdges(t *testing.T) {
	ns := edges()
	for _, a := range ns {
		for _, b := range ns {
			check(t, back, a, b, back, a, a, b)
		}
	}
	r := rand.New(rand.NewSource(1))
	for range 20000 {
		steps := make([]int64, 1+r.Intn(12))
		for i := range steps {
			steps[i] = ns[r.Intn(len(ns))]
		}
		check(t, steps...)
	}
}

// Differences of all remainders by 4 and by 8, upwards and downwards.
func TestRemainders(t *testing.T) {
	for base := int64(300000); base < 300008; base++ {
		for d := int64(-40); d <= 40; d++ {
			check(t, base, base+d, base, base-d, base+2*d, base+d)
		}
	}
}

// Long walks: samples about one length, samples of any length, and Backs between.
func TestThrown(t *testing.T) {
	r := rand.New(rand.NewSource(2))
	for range 300 {
		middle := r.Int63n(70000000)
		steps := make([]int64, 200)
		for i := range steps {
			switch r.Intn(5) {
			case 0:
				steps[i] = back
			case 1:
				steps[i] = int64(r.Uint64()) >> r.Intn(64)
			default:
				steps[i] = middle + r.Int63n(1+middle/4) - r.Int63n(1+middle/4)
			}
		}
		check(t, steps...)
	}
}

// However often Back comes, Rto stays at its greatest, and the next Sample makes as much of it as if there had been no Back.
func TestBacks(t *testing.T) {
	for _, d := range edges() {
		for _, backs := range []int{1, 2, 5, 62, 63, 64, 65, 1000} {
			r, plain, fresh := of(d), of(d), New()
			smooth, _ := r.Smooth()
			rto, untold := r.Rto(), fresh.Rto()
			for range backs {
				r.Back()
				fresh.Back()
				rto, untold = min(2*rto, 64000000), min(2*untold, 64000000)
				if got, want := told(r), fmt.Sprint(smooth, true, rto); got != want {
					t.Fatalf("P12.1: Sample %d, backed: %s, not %s", d, got, want)
				}
				if got, want := told(fresh), fmt.Sprint(0, false, untold); got != want {
					t.Fatalf("P12.1: backed ahead of any sample: %s, not %s", got, want)
				}
			}
			if fresh.Sample(d); told(fresh) != told(plain) {
				t.Fatalf("P12.1: %d Backs, Sample %d: %s, not %s", backs, d, told(fresh), told(plain))
			}
			do(r, d, 5000, 900000)
			do(plain, d, 5000, 900000)
			if told(r) != told(plain) {
				t.Fatalf("P12.1: Sample %d, %d Backs, samples: %s, not %s", d, backs, told(r), told(plain))
			}
		}
	}
}

func TestNil(t *testing.T) {
	var r *Rtt
	for _, d := range edges() {
		r.Sample(d)
		r.Back()
		if told(r) != "0 false 0" {
			t.Fatalf("P12.1: nil, told %d: %s", d, told(r))
		}
	}
}

// An Rtt that New did not make is as one without any sample.
func TestZero(t *testing.T) {
	for _, steps := range [][]int64{nil, {back}, {back, 5}, {0}, {1000000, back}, {1000000, 1200000}} {
		r := new(Rtt)
		do(r, steps...)
		if got, want := told(r), told(of(steps...)); got != want {
			t.Errorf("P0.1: a zero Rtt, told %d: %s, not %s", steps, got, want)
		}
	}
}

// P0.5: asking changes nothing, and one Rtt hears nothing of what another is told.
func TestApart(t *testing.T) {
	ns := append(edges(), back, back, back)
	r := rand.New(rand.NewSource(3))
	a, b, other := New(), New(), New()
	for i := range 20000 {
		s := ns[r.Intn(len(ns))]
		for range i % 4 {
			a.Rto()
			a.Smooth()
		}
		do(a, s)
		do(other, ns[r.Intn(len(ns))])
		do(b, s)
		if got, want := told(a), told(b); got != want {
			t.Fatalf("P0.5: told the same, the one tells %s, the other %s", got, want)
		}
	}
	if fresh := New(); told(fresh) != "0 false 3000000" {
		t.Errorf("P0.5: a new one tells %s", told(fresh))
	}
}
