package win

import (
	"fmt"
	"math"
	"math/big"
	"math/rand"
	"slices"
	"testing"

	"muleteer/api"
	"muleteer/rtt"
	"muleteer/sent"
	"muleteer/seq"
)

const (
	round = 1 << 48
	half  = 1 << 47
	top   = 1 << 62
)

func l(ns ...uint64) []uint64 { return ns }

// told is all that w tells: Cwnd, Slow, Pipe, May, Due.
func told(w *Win) string {
	due, runs := w.Due()
	return fmt.Sprint(w.Cwnd(), w.Slow(), w.Pipe(), w.May(), due, runs)
}

// step is one call on a Win; what it answers is told with what the Win tells behind it.
type step func(*Win) string

func send(n uint64, now int64) step {
	return func(w *Win) string { return fmt.Sprint(w.Sent(n, now), " ", told(w)) }
}

func fire(now int64) step {
	return func(w *Win) string { return fmt.Sprint(w.Fire(now), " ", told(w)) }
}

func hear(h sent.Heard, now int64) step {
	return func(w *Win) string { w.Hear(h, now); return told(w) }
}

// heard is a Heard whose Rtt tells nothing.
func heard(marks int, got, late, lost []uint64) sent.Heard {
	return sent.Heard{Got: got, Late: late, Lost: lost, Marks: marks, Rtt: -1}
}

func got(ns ...uint64) sent.Heard  { return heard(0, ns, nil, nil) }
func lost(ns ...uint64) sent.Heard { return heard(0, nil, nil, ns) }

// many is that k numbers were got.
func many(k int) sent.Heard { return heard(0, make([]uint64, k), nil, nil) }

// scene is steps and what each of them tells.
type scene struct {
	name  string
	steps []step
	wants []string
}

func play(t *testing.T, scenes []scene) {
	t.Helper()
	for _, c := range scenes {
		w := New()
		for i, s := range c.steps {
			if answer := s(w); i >= len(c.wants) || answer != c.wants[i] {
				t.Errorf("P13.1: %s: step %d tells %s, not as in %q", c.name, i, answer, c.wants)
				break
			}
		}
	}
}

// opened is a Win with that Cwnd, below Slow, that was told of nothing sent.
func opened(cwnd int) *Win {
	w := New()
	w.Hear(many(cwnd-3), 0)
	return w
}

func TestNew(t *testing.T) {
	if got := told(New()); got != "3 1000000 0 true 0 false" {
		t.Errorf("P13.1: New tells %s", got)
	}
}

func TestSent(t *testing.T) {
	play(t, []scene{
		{"up to Cwnd", []step{send(9, 7), send(10, 20), send(11, 3), send(12, 30), send(12, 30)}, []string{
			"true 3 1000000 1 true 3000007 true", "true 3 1000000 2 true 3000007 true", "true 3 1000000 3 false 3000007 true",
			"false 3 1000000 3 false 3000007 true", "false 3 1000000 3 false 3000007 true",
		}},
		{"any number, also the same again", []step{send(5, 0), send(5, 0), send(1, 0)}, []string{
			"true 3 1000000 1 true 3000000 true", "true 3 1000000 2 true 3000000 true", "true 3 1000000 3 false 3000000 true",
		}},
		{"a clock that does not run, behind a Hear of all", []step{send(5, 0), hear(got(5), 100), send(6, 200)}, []string{
			"true 3 1000000 1 true 3000000 true", "4 1000000 0 true 0 false", "true 4 1000000 1 true 3000200 true",
		}},
		{"what is refused is not the last that was sent", []step{send(5, 0), send(6, 0), send(7, 0), send(8, 0), hear(lost(5), 1), send(8, 1), hear(lost(8), 2)}, []string{
			"true 3 1000000 1 true 3000000 true", "true 3 1000000 2 true 3000000 true", "true 3 1000000 3 false 3000000 true", "false 3 1000000 3 false 3000000 true",
			"1 1 2 false 3000001 true", "false 1 1 2 false 3000001 true", "1 1 1 false 3000002 true",
		}},
	})
	w := New()
	for n := range uint64(3) {
		w.Sent(n, 0)
	}
	w.Sent(100, 0)
	w.Hear(heard(0, l(0, 1, 2), nil, l(2)), 0)
	if w.Hear(got(0, 1, 2), 0); told(w) != "4 3 0 true 0 false" {
		t.Fatalf("P13.1: %s", told(w))
	}
	if w.Hear(lost(3), 0); told(w) != "2 2 0 true 0 false" {
		t.Errorf("P13.1: 3 is behind the last that was sent, 2; 100 was refused: %s", told(w))
	}
}

func TestPipe(t *testing.T) {
	play(t, []scene{
		{"less by Got and Lost, not by Late and Marks", []step{
			hear(many(7), 0), send(1, 0), send(2, 0), send(3, 0), send(4, 0), send(5, 0), send(6, 0),
			hear(got(1, 2), 10), hear(heard(0, nil, l(7, 8, 9), nil), 20), hear(lost(3, 4, 5), 30), hear(heard(5, nil, nil, nil), 40), hear(got(6), 50),
		}, []string{
			"10 1000000 0 true 0 false", "true 10 1000000 1 true 3000000 true", "true 10 1000000 2 true 3000000 true", "true 10 1000000 3 true 3000000 true",
			"true 10 1000000 4 true 3000000 true", "true 10 1000000 5 true 3000000 true", "true 10 1000000 6 true 3000000 true",
			"12 1000000 4 true 3000010 true", "12 1000000 4 true 3000020 true", "6 6 1 true 3000030 true", "6 6 1 true 3000040 true", "6 6 0 true 0 false",
		}},
		{"of both at once", []step{send(1, 0), send(2, 0), send(3, 0), hear(heard(0, l(2), nil, l(1)), 10)}, []string{
			"true 3 1000000 1 true 3000000 true", "true 3 1000000 2 true 3000000 true", "true 3 1000000 3 false 3000000 true", "2 2 1 true 3000010 true",
		}},
		{"0 at least", []step{send(1, 0), hear(heard(0, l(1, 2), l(3), l(4)), 10), send(5, 20)}, []string{
			"true 3 1000000 1 true 3000000 true", "2 2 0 true 0 false", "true 2 2 1 true 3000020 true",
		}},
	})
}

func TestGrowth(t *testing.T) {
	play(t, []scene{
		{"below Slow as many as were got", []step{hear(many(1), 0), hear(many(5), 0), hear(many(0), 0), hear(many(91), 0)}, []string{
			"4 1000000 0 true 0 false", "9 1000000 0 true 0 false", "9 1000000 0 true 0 false", "100 1000000 0 true 0 false",
		}},
		{"Late and Lost grow nothing", []step{hear(heard(0, nil, l(1, 2, 3), nil), 0), hear(lost(4), 0), hear(lost(5), 0)}, []string{
			"3 1000000 0 true 0 false", "1 1 0 true 0 false", "1 1 0 true 0 false",
		}},
		// Slow is 5; from 5 on 5 make 6, 6 make 7.
		{"not below Slow, one by one", []step{
			hear(many(7), 0), send(1, 0), hear(lost(1), 0),
			hear(many(4), 0), hear(many(1), 0), hear(many(1), 0), hear(many(4), 0), hear(many(1), 0), hear(many(6), 0), hear(many(1), 0),
		}, []string{
			"10 1000000 0 true 0 false", "true 10 1000000 1 true 3000000 true", "5 5 0 true 0 false",
			"5 5 0 true 0 false", "6 5 0 true 0 false", "6 5 0 true 0 false", "6 5 0 true 0 false", "7 5 0 true 0 false", "7 5 0 true 0 false", "8 5 0 true 0 false",
		}},
		// 5 and 6 and 7 are 18, and one more is left over.
		{"not below Slow, at once", []step{hear(many(7), 0), send(1, 0), hear(lost(1), 0), hear(many(19), 0), hear(many(6), 0), hear(many(1), 0)}, []string{
			"10 1000000 0 true 0 false", "true 10 1000000 1 true 3000000 true", "5 5 0 true 0 false", "8 5 0 true 0 false", "8 5 0 true 0 false", "9 5 0 true 0 false",
		}},
		// A Fire at 10 leaves 1 with Slow 5: 4 make it 5, of the others 5 make it 6.
		{"over Slow at once", []step{hear(many(7), 0), send(1, 0), fire(3000000), hear(many(8), 0), hear(many(1), 0)}, []string{
			"10 1000000 0 true 0 false", "true 10 1000000 1 true 3000000 true", "true 1 5 0 true 0 false", "5 5 0 true 0 false", "6 5 0 true 0 false",
		}},
		{"just up to Slow", []step{hear(many(7), 0), send(1, 0), fire(3000000), hear(many(4), 0), hear(many(5), 0)}, []string{
			"10 1000000 0 true 0 false", "true 10 1000000 1 true 3000000 true", "true 1 5 0 true 0 false", "5 5 0 true 0 false", "6 5 0 true 0 false",
		}},
		{"a halving takes the count", []step{
			hear(many(9), 0), send(1, 0), hear(lost(1), 0), hear(many(5), 0), send(2, 0), hear(lost(2), 0), hear(many(2), 0), hear(many(1), 0),
		}, []string{
			"12 1000000 0 true 0 false", "true 12 1000000 1 true 3000000 true", "6 6 0 true 0 false", "6 6 0 true 0 false",
			"true 6 6 1 true 3000000 true", "3 3 0 true 0 false", "3 3 0 true 0 false", "4 3 0 true 0 false",
		}},
		{"a Fire takes the count", []step{
			hear(many(9), 0), send(1, 0), hear(lost(1), 0), hear(many(5), 0), send(2, 0), fire(3000000), hear(many(2), 0), hear(many(2), 0), hear(many(1), 0),
		}, []string{
			"12 1000000 0 true 0 false", "true 12 1000000 1 true 3000000 true", "6 6 0 true 0 false", "6 6 0 true 0 false",
			"true 6 6 1 true 3000000 true", "true 1 3 0 true 0 false", "3 3 0 true 0 false", "3 3 0 true 0 false", "4 3 0 true 0 false",
		}},
		{"up to the first Slow", []step{hear(many(999996), 0), hear(many(1), 0), hear(many(999999), 0), hear(many(1), 0)}, []string{
			"999999 1000000 0 true 0 false", "1000000 1000000 0 true 0 false", "1000000 1000000 0 true 0 false", "1000001 1000000 0 true 0 false",
		}},
		{"over the first Slow", []step{hear(many(999997+1000000+3), 0), hear(many(999997), 0), hear(many(1), 0)}, []string{
			"1000001 1000000 0 true 0 false", "1000001 1000000 0 true 0 false", "1000002 1000000 0 true 0 false",
		}},
	})
}

// It grows ahead of halving, by what the same Hear has got.
func TestGrowsThenHalves(t *testing.T) {
	play(t, []scene{
		{"from 3 by 3", []step{hear(heard(0, l(1, 2, 3), nil, l(0)), 0)}, []string{"3 3 0 true 0 false"}},
		{"from 3 by 4", []step{hear(heard(1, l(1, 2, 3, 4), nil, nil), 0)}, []string{"3 3 0 true 0 false"}},
		{"from 3 by 5", []step{hear(heard(0, l(1, 2, 3, 4, 5), nil, l(0)), 0)}, []string{"4 4 0 true 0 false"}},
		{"what was counted is gone", []step{send(0, 0), hear(lost(0), 0), hear(heard(0, l(1, 2, 3, 4), nil, l(9)), 0), hear(many(1), 0)}, []string{
			"true 3 1000000 1 true 3000000 true", "1 1 0 true 0 false", "1 1 0 true 0 false", "2 1 0 true 0 false",
		}},
	})
}

func TestHalves(t *testing.T) {
	for cwnd := 3; cwnd < 200; cwnd++ {
		for _, h := range []sent.Heard{lost(1), heard(1, nil, l(1), nil), heard(math.MaxInt, nil, l(1), nil)} {
			w := opened(cwnd)
			w.Sent(1, 0)
			w.Sent(2, 0)
			w.Hear(h, 0)
			if w.Cwnd() != cwnd/2 || w.Slow() != cwnd/2 {
				t.Errorf("P13.1: Hear of %v at %d: %s", h, cwnd, told(w))
			}
		}
		w := opened(cwnd)
		w.Sent(1, 0)
		if !w.Fire(3000000) || w.Cwnd() != 1 || w.Slow() != cwnd/2 {
			t.Errorf("P13.1: Fire at %d: %s", cwnd, told(w))
		}
	}
	w := New()
	for n := range uint64(50) {
		if !w.Sent(n, 0) {
			t.Fatalf("T1: Cwnd is 1 or more, so one may go: %s", told(w))
		}
		if w.Hear(lost(n), 0); w.Cwnd() != 1 || w.Slow() != 1 {
			t.Fatalf("P13.1: Slow is 1 at least: %s", told(w))
		}
	}
}

// Without Lost and with no mark nothing halves it, whatever else was heard.
func TestHalvesOnlyWhenTold(t *testing.T) {
	for _, marks := range []int{0, -1, math.MinInt} {
		for _, h := range []sent.Heard{heard(marks, nil, nil, nil), heard(marks, nil, l(1, 2), nil)} {
			w := opened(20)
			w.Sent(1, 0)
			if w.Hear(h, 0); told(w) != "20 1000000 1 true 3000000 true" {
				t.Errorf("P13.1: Hear of %v: %s", h, told(w))
			}
		}
		w := opened(20)
		w.Sent(1, 0)
		if w.Hear(heard(marks, l(1, 2), l(3), nil), 0); told(w) != "22 1000000 0 true 0 false" {
			t.Errorf("P13.1: Hear with Marks %d: %s", marks, told(w))
		}
	}
}

// halvedAt is a Win of Cwnd 10 that halved at n, with nothing on its way.
func halvedAt(n uint64) *Win {
	w := opened(20)
	w.Sent(n, 0)
	w.Hear(lost(n), 0)
	return w
}

// Of what is wrong the last one tells whether it halves, of Lost ahead of Got and Late.
func TestWhichTells(t *testing.T) {
	for _, at := range []uint64{0, 1, 50, 1000, half - 2, half, round - 3, round - 1} {
		n := func(d int64) uint64 { return seq.Add(at, d) }
		for _, c := range []struct {
			h      sent.Heard
			halves bool
		}{
			{lost(n(1)), true}, {lost(n(0)), false}, {lost(n(-1)), false},
			{lost(n(half - 1)), true}, {lost(n(half)), true}, {lost(n(half + 1)), false},
			{lost(n(-5), n(-1), n(0)), false}, {lost(n(-5), n(-1), n(1)), true}, {lost(n(1), n(2)), true},
			{lost(n(1) + round), true}, {lost(n(0) + round), false}, {lost(n(-1) + 5*round), false},
			{heard(0, l(n(1)), nil, l(n(0))), false}, {heard(1, l(n(7)), l(n(9)), l(n(0))), false}, {heard(1, l(n(-7)), l(n(-9)), l(n(1))), true},
			{heard(1, l(n(0)), nil, nil), false}, {heard(1, l(n(1)), nil, nil), true}, {heard(1, l(n(-3), n(1)), nil, nil), true}, {heard(1, l(n(-3), n(0)), nil, nil), false},
			{heard(1, nil, l(n(0)), nil), false}, {heard(1, nil, l(n(1)), nil), true}, {heard(1, nil, l(n(-3), n(1)), nil), true}, {heard(1, nil, l(n(-3), n(0)), nil), false},
			{heard(1, l(n(1)), l(n(0)), nil), true}, {heard(1, l(n(0)), l(n(1)), nil), true}, {heard(1, l(n(0)), l(n(-1)), nil), false}, {heard(1, l(n(-1)), l(n(0)), nil), false},
			{heard(1, l(n(-4), n(3)), l(n(-9), n(-5)), nil), true}, {heard(1, l(n(1)), l(n(2)), nil), true},
			{heard(0, l(n(1)), l(n(2)), nil), false}, {heard(-1, l(n(1)), l(n(2)), nil), false},
			{heard(1, nil, nil, nil), false}, {heard(math.MaxInt, nil, nil, nil), false},
		} {
			w := halvedAt(at)
			cwnd, slow := 10, 10
			if c.halves {
				cwnd, slow = 5, 5
			}
			if w.Hear(c.h, 0); w.Cwnd() != cwnd || w.Slow() != slow {
				t.Errorf("P13.1: halved at %d, Hear of %+v: %s", at, c.h, told(w))
			}
		}
	}
}

// It halves as if it never had, whatever the numbers, until it notes where; that it can't while nothing was sent.
func TestFirstHalving(t *testing.T) {
	troubles := []sent.Heard{
		lost(0), lost(round - 1), lost(half), lost(5, 6), heard(1, nil, l(0), nil), heard(2, nil, l(half, half+3), nil), heard(1, nil, nil, nil), heard(math.MaxInt, nil, nil, nil),
	}
	for _, h := range troubles {
		w := opened(40)
		w.Sent(7, 0)
		w.Hear(h, 0)
		if w.Cwnd() != 20 || w.Slow() != 20 {
			t.Errorf("P13.1: the first Hear of %+v: %s", h, told(w))
		}
		if w.Hear(lost(7), 0); w.Cwnd() != 20 {
			t.Errorf("P13.1: it halved at 7 for %+v: %s", h, told(w))
		}
		if w.Hear(lost(8), 0); w.Cwnd() != 10 {
			t.Errorf("P13.1: 8 is behind that, %+v: %s", h, told(w))
		}
		w = opened(40)
		for _, want := range []int{20, 10, 5, 2, 1, 1} {
			if w.Hear(h, 0); w.Cwnd() != want || w.Slow() != want {
				t.Errorf("P13.1: with nothing sent, Hear of %+v: %s, not %d", h, told(w), want)
			}
		}
	}
}

// What it notes is the last that was sent, not what was lost; from a Fire, too.
func TestWhereItHalved(t *testing.T) {
	for _, at := range []uint64{3, half, round - 3} {
		for _, fires := range []bool{false, true} {
			w := opened(80)
			for d := range int64(6) {
				w.Sent(seq.Add(at, d), 0)
			}
			const was = 40
			if fires {
				w.Fire(3000000)
				w.Hear(many(was-1), 0)
			} else {
				w.Hear(lost(at), 0)
			}
			for d := range int64(6) {
				if w.Hear(lost(seq.Add(at, d)), 0); w.Cwnd() != was || w.Slow() != was {
					t.Errorf("T1: halved at %d and 5, once more at %d: %s", at, d, told(w))
				}
			}
			if w.Hear(lost(seq.Add(at, 6)), 0); w.Cwnd() != was/2 || w.Slow() != was/2 {
				t.Errorf("P13.1: halved at %d and 5, not at 6: %s", at, told(w))
			}
			// It halved at the same place again, as nothing more was sent.
			if w.Hear(lost(seq.Add(at, 6)), 0); w.Cwnd() != was/4 {
				t.Errorf("P13.1: halved at %d and 5, 6 again: %s", at, told(w))
			}
			w.Sent(seq.Add(at, 9), 0)
			if w.Hear(lost(seq.Add(at, 7)), 0); w.Cwnd() != was/8 {
				t.Errorf("P13.1: 7 is behind 5: %s", told(w))
			}
			if w.Hear(lost(seq.Add(at, 9)), 0); w.Cwnd() != was/8 {
				t.Errorf("T1: halved at %d and 9, once more at 9: %s", at, told(w))
			}
		}
	}
}

func TestClock(t *testing.T) {
	sample := func(d int64, ns ...uint64) sent.Heard { h := got(ns...); h.Rtt = d; return h }
	play(t, []scene{
		{"a Hear makes it run anew", []step{send(1, 0), send(2, 0), hear(got(1), 1000), hear(got(), 2000), hear(got(), 500), hear(got(2), 600)}, []string{
			"true 3 1000000 1 true 3000000 true", "true 3 1000000 2 true 3000000 true",
			"4 1000000 1 true 3001000 true", "4 1000000 1 true 3002000 true", "4 1000000 1 true 3000500 true", "5 1000000 0 true 0 false",
		}},
		{"a Hear with nothing on its way lets it be", []step{hear(got(), 9), hear(got(1), 9), hear(lost(1), 9)}, []string{
			"3 1000000 0 true 0 false", "4 1000000 0 true 0 false", "2 2 0 true 0 false",
		}},
		{"by the Rto with this sample", []step{send(1, 0), send(2, 0), hear(sample(1000000, 1), 1000000), hear(sample(1200000), 1200000), hear(sample(0), 5)}, []string{
			"true 3 1000000 1 true 3000000 true", "true 3 1000000 2 true 3000000 true",
			"4 1000000 1 true 4000000 true", "4 1000000 1 true 3925000 true", "4 1000000 1 true 3196880 true",
		}},
		{"samples of 0, and below it", []step{send(1, 0), send(2, 0), hear(sample(-1), 0), hear(sample(math.MinInt64), 0), hear(sample(0), 0), hear(sample(math.MaxInt64), 0)}, []string{
			"true 3 1000000 1 true 3000000 true", "true 3 1000000 2 true 3000000 true",
			"3 1000000 2 true 3000000 true", "3 1000000 2 true 3000000 true", "3 1000000 2 true 200000 true", "3 1000000 2 true 64000000 true",
		}},
		{"a sample with nothing on its way is heard, too", []step{hear(sample(0), 0), send(1, 0)}, []string{
			"3 1000000 0 true 0 false", "true 3 1000000 1 true 200000 true",
		}},
		{"a sample of a Hear without numbers ends a Back", []step{send(1, 0), fire(3000000), send(2, 0), hear(got(), 5), hear(sample(0), 5)}, []string{
			"true 3 1000000 1 true 3000000 true", "true 1 1 0 true 0 false", "true 1 1 1 false 6000000 true", "1 1 1 false 6000005 true", "1 1 1 false 200005 true",
		}},
	})
}

func TestFire(t *testing.T) {
	play(t, []scene{
		{"it does not run", []step{fire(0), fire(math.MaxInt64), fire(-1)}, []string{
			"false 3 1000000 0 true 0 false", "false 3 1000000 0 true 0 false", "false 3 1000000 0 true 0 false",
		}},
		{"just when it is due", []step{send(1, 10), fire(10), fire(3000009), fire(math.MinInt64), fire(3000010), fire(3000010), fire(math.MaxInt64)}, []string{
			"true 3 1000000 1 true 3000010 true", "false 3 1000000 1 true 3000010 true", "false 3 1000000 1 true 3000010 true", "false 3 1000000 1 true 3000010 true",
			"true 1 1 0 true 0 false", "false 1 1 0 true 0 false", "false 1 1 0 true 0 false",
		}},
		{"later", []step{send(1, 10), fire(1 << 40), send(2, 5)}, []string{
			"true 3 1000000 1 true 3000010 true", "true 1 1 0 true 0 false", "true 1 1 1 false 6000005 true",
		}},
		{"it ran anew", []step{send(1, 0), hear(got(), 50), fire(3000049), fire(3000050)}, []string{
			"true 3 1000000 1 true 3000000 true", "3 1000000 1 true 3000050 true", "false 3 1000000 1 true 3000050 true", "true 1 1 0 true 0 false",
		}},
		{"behind a Fire Got of what was on its way makes Pipe not less than 0", []step{send(1, 0), send(2, 0), fire(3000000), hear(got(1), 0), send(3, 0)}, []string{
			"true 3 1000000 1 true 3000000 true", "true 3 1000000 2 true 3000000 true", "true 1 1 0 true 0 false", "2 1 0 true 0 false", "true 2 1 1 true 6000000 true",
		}},
	})
	// Each one doubles Rto, up to its greatest, until a sample comes.
	w := New()
	rto, now := int64(3000000), int64(0)
	for n := range uint64(300) {
		if !w.Sent(n, now) || w.Fire(now+rto-1) || !w.Fire(now+rto) || w.Cwnd() != 1 || w.Slow() != 1 || w.Pipe() != 0 {
			t.Fatalf("T1: Fire %d: %s", n, told(w))
		}
		now, rto = now+rto, min(2*rto, 64000000)
	}
	w.Hear(sent.Heard{Rtt: 1000000}, now)
	if w.Sent(300, 0); told(w) != "1 1 1 false 3000000 true" {
		t.Errorf("P13.1: a sample behind 300 Fires: %s", told(w))
	}
}

// A time above 2^62 counts as 2^62, now or due; one below 0 is ahead of all.
func TestTimes(t *testing.T) {
	for _, x := range []struct{ now, due int64 }{
		{0, 3000000}, {-1, 2999999}, {-3000000, 0}, {-3000001, -1}, {math.MinInt64, math.MinInt64 + 3000000}, {-top, 3000000 - top},
		{top - 3000001, top - 1}, {top - 3000000, top}, {top - 2999999, top}, {top - 1, top}, {top, top}, {top + 1, top}, {math.MaxInt64 - 3000000, top}, {math.MaxInt64, top},
	} {
		a, b := New(), New()
		a.Sent(1, x.now)
		b.Sent(1, 0)
		b.Hear(sent.Heard{Rtt: -1}, x.now)
		want := fmt.Sprint("3 1000000 1 true ", x.due, " true")
		if told(a) != want || told(b) != want {
			t.Errorf("P0.6: Sent at %d: %s; Hear: %s; not %s", x.now, told(a), told(b), want)
		}
		for _, now := range []int64{math.MinInt64, -top, -1, 0, 1, x.due - 1, x.due, x.due + 1, top - 1, top, top + 1, math.MaxInt64 - 1, math.MaxInt64} {
			w := New()
			w.Sent(1, x.now)
			if w.Fire(now) != (now >= x.due) {
				t.Errorf("P13.1: due at %d, fired at %d: %s", x.due, now, told(w))
			}
		}
	}
}

func TestNil(t *testing.T) {
	var w *Win
	for _, now := range []int64{math.MinInt64, -1, 0, 1, top, math.MaxInt64} {
		w.Hear(sent.Heard{}, now)
		w.Hear(heard(1, l(1), l(2), l(3)), now)
		if w.Sent(uint64(now), now) || w.Fire(now) || told(w) != "0 0 0 false 0 false" {
			t.Fatalf("T1: nil tells %s", told(w))
		}
	}
}

// A Win that New did not make may tell anything, but each call ends.
func TestZero(t *testing.T) {
	for first := range 4 {
		w := new(Win)
		for i := range 40 {
			switch (first + i) % 4 {
			case 0:
				w.Sent(uint64(i), int64(i))
			case 1:
				w.Hear(heard(i%3, make([]uint64, i), nil, make([]uint64, i%2)), int64(i))
			case 2:
				w.Fire(math.MaxInt64)
			default:
				told(w)
			}
		}
	}
}

// model is the chapter once more: it grows one by one, and times have no end. Rto is rtt's.
type model struct {
	cwnd, slow, pipe, count int
	sent                    []uint64
	halved                  *uint64
	due                     *big.Int // nil: the clock does not run
	rtt                     *rtt.Rtt
}

func newModel() *model {
	return &model{cwnd: 3, slow: 1000000, rtt: rtt.New()}
}

func (m *model) told() string {
	due := new(big.Int)
	if m.due != nil {
		due = m.due
	}
	return fmt.Sprint(m.cwnd, m.slow, m.pipe, m.pipe < m.cwnd, due, m.due != nil)
}

func asTime(n *big.Int) *big.Int {
	if n.Cmp(big.NewInt(top)) > 0 {
		return big.NewInt(top)
	}
	return n
}

func (m *model) start(now int64) {
	m.due = asTime(new(big.Int).Add(asTime(big.NewInt(now)), big.NewInt(m.rtt.Rto())))
}

func (m *model) send(n uint64, now int64) bool {
	if m.pipe >= m.cwnd {
		return false
	}
	m.pipe++
	m.sent = append(m.sent, n%round)
	if m.due == nil {
		m.start(now)
	}
	return true
}

// further tells whether a is further on than b: up to half a round.
func further(a, b uint64) bool {
	way := (a%round + round - b%round) % round
	return way != 0 && way <= half
}

func (m *model) halve() {
	m.slow = m.cwnd / 2
	if m.slow == 0 {
		m.slow = 1
	}
	m.cwnd, m.count = m.slow, 0
	if len(m.sent) > 0 {
		n := m.sent[len(m.sent)-1]
		m.halved = &n
	}
}

func (m *model) trouble(h sent.Heard) bool {
	if m.halved == nil {
		return true
	}
	if len(h.Lost) > 0 {
		return further(h.Lost[len(h.Lost)-1], *m.halved)
	}
	last := slices.Concat(h.Got, h.Late)
	slices.SortStableFunc(last, func(a, b uint64) int {
		switch {
		case further(a, b):
			return 1
		case further(b, a):
			return -1
		}
		return 0
	})
	return len(last) > 0 && further(last[len(last)-1], *m.halved)
}

func (m *model) hear(h sent.Heard, now int64) {
	for range len(h.Got) + len(h.Lost) {
		if m.pipe > 0 {
			m.pipe--
		}
	}
	if h.Rtt >= 0 {
		m.rtt.Sample(h.Rtt)
	}
	for range h.Got {
		if m.cwnd < m.slow {
			m.cwnd++
			continue
		}
		m.count++
		if m.count == m.cwnd {
			m.count = 0
			m.cwnd++
		}
	}
	if (len(h.Lost) > 0 || h.Marks > 0) && m.trouble(h) {
		m.halve()
	}
	m.due = nil
	if m.pipe > 0 {
		m.start(now)
	}
}

func (m *model) fire(now int64) bool {
	if m.due == nil || asTime(big.NewInt(now)).Cmp(m.due) < 0 {
		return false
	}
	m.halve()
	m.cwnd, m.pipe, m.due = 1, 0, nil
	m.rtt.Back()
	return true
}

// throwList is up to most numbers, rising, the last of them near n.
func throwList(r *rand.Rand, n uint64, most int) []uint64 {
	ns := make([]uint64, r.Intn(most+1))
	at := seq.Add(n, int64(r.Intn(12))-8)
	for i := len(ns) - 1; i >= 0; i-- {
		ns[i] = at
		at = seq.Add(at, -1-int64(r.Intn(2)))
	}
	return ns
}

func throwHeard(r *rand.Rand, n uint64) sent.Heard {
	h := sent.Heard{Rtt: r.Int63n(900000) - 100000}
	if r.Intn(4) > 0 {
		h.Got = throwList(r, n, 1<<r.Intn(6))
	}
	switch r.Intn(8) {
	case 0:
		h.Lost = throwList(r, n, 3)
	case 1:
		h.Late = throwList(r, n, 3)
		h.Marks = r.Intn(3) - 1
	case 2:
		h.Marks = r.Intn(5) / 4
	}
	return h
}

// Thrown scripts, about the end of the round and the half, early and late, against the model; what T1 says is held at each step.
func TestThrown(t *testing.T) {
	for seed := range int64(600) {
		r := rand.New(rand.NewSource(seed))
		w, m := New(), newModel()
		n := []uint64{0, 1000, half - 100, round - 100, r.Uint64()}[seed%5]
		now := []int64{0, -1 << 40, top - 20000000, math.MaxInt64 - 1<<40}[r.Intn(4)]
		fires := 3 + r.Intn(30)
		for range 500 {
			if r.Intn(6) == 0 {
				now += r.Int63n(400000)
			}
			was := w.Cwnd()
			switch roll := r.Intn(fires); {
			case roll == 0:
				at := now + r.Int63n(5000000)
				if due, runs := w.Due(); runs && r.Intn(2) == 0 {
					at = due - int64(r.Intn(2))
				}
				ok := m.fire(at)
				if w.Fire(at) != ok || ok && w.Cwnd() != 1 {
					t.Fatalf("P13.1, T1: Fire at %d is not %v: %s", at, ok, told(w))
				}
			case roll%3 == 0:
				h := throwHeard(r, n)
				m.hear(h, now)
				if w.Hear(h, now); w.Cwnd() > was+len(h.Got) {
					t.Fatalf("T1: from %d Hear of %+v: %s", was, h, told(w))
				}
			default:
				ok := m.send(n, now)
				if may := w.May(); may != ok || w.Sent(n, now) != may {
					t.Fatalf("P13.1, T1: Sent %d is not %v: %s", n, ok, told(w))
				}
				n += uint64(r.Intn(3))
			}
			if told(w) != m.told() || w.Cwnd() < 1 {
				t.Fatalf("P13.1, T1: %s, not %s", told(w), m.told())
			}
		}
	}
}

// way is a Win and the record of what it sent, over a way that loses some.
type way struct {
	w     *Win
	s     *sent.Sent
	n     uint64
	paid  uint64 // the last that was sent when it last halved
	there []uint64
}

// send sends as many as it may, 60 at most, and lets some of them get there.
func (y *way) send(t *testing.T, r *rand.Rand, now int64, loses int) {
	for y.w.May() && y.s.Out() < 60 {
		if !y.s.Put(y.n, now) || !y.w.Sent(y.n, now) {
			t.Fatalf("T1: May, but not Sent: %s", told(y.w))
		}
		if r.Intn(loses) > 0 {
			y.there = append(y.there, y.n)
		}
		y.n = seq.Add(y.n, 1)
	}
}

// cells tells which of the 60 numbers from the last one that got there downwards got there.
func (y *way) cells(r *rand.Rand) (uint64, []api.Cell) {
	last := y.there[len(y.there)-1]
	var cs []api.Cell
	for d := range int64(60) {
		c := api.Cell{State: api.CLost, Run: 1}
		if slices.Contains(y.there[max(0, len(y.there)-80):], seq.Add(last, -d)) {
			c.State = api.CGot
			if r.Intn(400) == 0 {
				c.State = api.CMark
			}
		}
		cs = append(cs, c)
	}
	return last, cs
}

// With package sent: each window's trouble halves it once, and Pipe is what is out.
func TestWithSent(t *testing.T) {
	for seed := range int64(100) {
		r := rand.New(rand.NewSource(seed))
		y := &way{w: New(), s: sent.New(), n: []uint64{0, round - 300, half - 300}[seed%3]}
		y.paid = seq.Add(y.n, -1)
		loses, now, halvings := 10+r.Intn(200), int64(0), 0
		for range 300 {
			was := y.w.Cwnd()
			y.send(t, r, now, loses)
			now += 50000 + r.Int63n(100000)
			if due, runs := y.w.Due(); runs && (r.Intn(30) == 0 || len(y.there) == 0) {
				now = max(now, due)
				if !y.w.Fire(now) || y.w.Cwnd() != 1 || y.w.Slow() != max(was/2, 1) {
					t.Fatalf("T1: Fire at %d: %s", now, told(y.w))
				}
				y.s.LoseAll()
				y.paid = seq.Add(y.n, -1)
			} else {
				ack, cs := y.cells(r)
				h := y.s.Hear(ack, cs, now)
				slow := y.w.Slow()
				y.w.Hear(h, now)
				wrong := slices.Concat(h.Lost, h.Got, h.Late)
				news := slices.ContainsFunc(wrong, func(n uint64) bool { return further(n, y.paid) })
				if halved := y.w.Slow() < slow; halved {
					halvings++
					if !news || y.w.Cwnd() != y.w.Slow() || len(h.Lost) == 0 && h.Marks == 0 {
						t.Fatalf("T1: paid up to %d, Hear of %+v: %s", y.paid, h, told(y.w))
					}
					y.paid = seq.Add(y.n, -1)
				}
				if y.w.Cwnd() > was+len(h.Got) {
					t.Fatalf("T1: from %d Hear of %+v: %s", was, h, told(y.w))
				}
			}
			if y.w.Pipe() != y.s.Out() {
				t.Fatalf("P13.1: Pipe, and what is out: %d and %d", y.w.Pipe(), y.s.Out())
			}
		}
		if halvings == 0 {
			t.Errorf("seed %d: nothing halved it", seed)
		}
	}
}

// P0.3: what is heard is neither changed nor kept.
func TestListsStay(t *testing.T) {
	room := []uint64{1, 2, 3, 4, 5, 6, 7, 8, 9}
	was := slices.Clone(room)
	h := heard(1, room[0:2], room[3:5], room[6:8])
	w, other := opened(40), opened(40)
	for _, x := range []*Win{w, other} {
		x.Sent(8, 0)
		x.Hear(h, 0)
	}
	if !slices.Equal(room, was) {
		t.Errorf("P0.3: Hear changed its lists: %d", room)
	}
	for i := range room {
		room[i] = 424242
	}
	fresh := heard(1, l(1), l(4), l(8))
	w.Hear(fresh, 5)
	other.Hear(fresh, 5)
	if told(w) != told(other) || told(w) != "21 21 0 true 0 false" {
		t.Errorf("P0.3: %s and %s", told(w), told(other))
	}
}

// P0.4: nil and empty are one.
func TestNilLists(t *testing.T) {
	for _, marks := range []int{0, 1} {
		for _, begin := range []func() *Win{New, func() *Win { return halvedAt(6) }} {
			a, b := begin(), begin()
			a.Sent(9, 0)
			b.Sent(9, 0)
			a.Hear(heard(marks, nil, nil, nil), 4)
			b.Hear(heard(marks, l(), make([]uint64, 0, 5), []uint64{3}[:0]), 4)
			if told(a) != told(b) {
				t.Errorf("P0.4: %s and %s", told(a), told(b))
			}
		}
	}
}

// P0.5: asking changes nothing, and one Win hears nothing of what another is told.
func TestApart(t *testing.T) {
	r := rand.New(rand.NewSource(9))
	a, b, other := New(), New(), New()
	for i := range 20000 {
		n, now := uint64(i), int64(i)*90000
		h, at := throwHeard(r, n), now+r.Int63n(4000000)
		for range i % 3 {
			told(a)
			New()
		}
		other.Sent(n+5, now)
		other.Hear(throwHeard(r, n), now)
		other.Fire(at)
		for _, w := range []*Win{a, b} {
			switch i % 5 {
			case 0:
				w.Hear(h, now)
			case 1:
				w.Fire(at)
			default:
				w.Sent(n, now)
			}
		}
		if told(a) != told(b) {
			t.Fatalf("P0.5: told the same, the one tells %s, the other %s", told(a), told(b))
		}
	}
	if w := New(); told(w) != "3 1000000 0 true 0 false" {
		t.Errorf("P0.5: a new one tells %s", told(w))
	}
}
