package ctrl

import (
	"errors"
	"fmt"
	"math"
	"math/rand"
	"runtime"
	"slices"
	"testing"

	"muleteer/pace"
	"muleteer/sent"
	"muleteer/tfrc"
	"muleteer/win"
)

const (
	never = 1 << 62
	aByte = 10000 // microseconds of a byte at a rate of 6,400: of datagrams of 100 bytes, ahead of any answer
)

// step is one call on a Control; it tells what that answers.
type step func(Control) string

func may(now int64, n int) step {
	return func(c Control) string { return fmt.Sprint(c.May(now, n)) }
}

func send(now int64, s uint64, n int) step {
	return func(c Control) string { return fmt.Sprint(c.Sent(now, s, n)) }
}

func hear(now int64, h sent.Heard, x, p uint64) step {
	return func(c Control) string { c.Hear(now, h, x, p); return "" }
}

// answer is a Hear of an answer that took that long.
func answer(now, rtt int64, x, p uint64) step {
	return hear(now, sent.Heard{Rtt: rtt}, x, p)
}

func fire(now int64) step {
	return func(c Control) string { return fmt.Sprint(c.Fire(now)) }
}

func due() step {
	return func(c Control) string { return fmt.Sprint(c.Due()) }
}

func kind() step {
	return func(c Control) string { return fmt.Sprint(c.Kind()) }
}

// window asks the Win for Cwnd, Slow, Pipe.
func window() step {
	return func(c Control) string {
		w, ok := Window(c)
		return fmt.Sprint(w.Cwnd(), w.Slow(), w.Pipe(), ok)
	}
}

// rate asks the Tfrc for Rate, Rtt, Loss, Top.
func rate() step {
	return func(c Control) string {
		t := Rate(c)
		return fmt.Sprint(t.Rate(), t.Rtt(), t.Loss(), t.Top())
	}
}

// room asks the Pace for Cap.
func room() step {
	return func(c Control) string {
		b, ok := Bucket(c)
		return fmt.Sprint(b.Cap(), ok)
	}
}

// when asks the Pace when n bytes may go; of 0 bytes that is the time of its last call.
func when(n int) step {
	return func(c Control) string {
		b, _ := Bucket(c)
		return fmt.Sprint(b.When(n))
	}
}

// its does a call on the very Tfrc.
func its(do func(*tfrc.Tfrc)) step {
	return func(c Control) string { do(Rate(c)); return "" }
}

// bucket does a call on the very Pace.
func bucket(do func(*pace.Pace) bool) step {
	return func(c Control) string {
		b, _ := Bucket(c)
		return fmt.Sprint(do(b))
	}
}

// straight does a call on the very Win.
func straight(do func(*win.Win) bool) step {
	return func(c Control) string {
		w, _ := Window(c)
		return fmt.Sprint(do(w))
	}
}

// then is a call and what it answers.
type then struct {
	do   step
	want any
}

// play goes through a scene with a Control of that kind and size.
func play(t *testing.T, name string, kind, size int, thens ...then) {
	t.Helper()
	c := Of(kind, size)
	for k, a := range thens {
		if got, want := a.do(c), fmt.Sprint(a.want); got != want {
			t.Errorf("P22.1: %s, step %d: %s, not %s", name, k, got, want)
			return
		}
	}
}

// foreign is a Control that Of did not make.
type foreign struct{ kind int }

func (f *foreign) Kind() int                              { return f.kind }
func (f *foreign) May(int64, int) bool                    { return true }
func (f *foreign) Sent(int64, uint64, int) bool           { return true }
func (f *foreign) Hear(int64, sent.Heard, uint64, uint64) {}
func (f *foreign) Fire(int64) bool                        { return true }
func (f *foreign) Due() (int64, bool)                     { return 5, true }
func (f *foreign) Window() (*win.Win, bool)               { return win.New(), true }
func (f *foreign) Rate() *tfrc.Tfrc                       { return tfrc.New(1) }
func (f *foreign) Bucket() (*pace.Pace, bool)             { return pace.New(1, 1), true }

// wrapped has a Control within it, and is none of Of's itself.
type wrapped struct{ Control }

func TestOf(t *testing.T) {
	kinds := []int{math.MinInt, -3, -2, -1, 0, 1, 2, 3, 4, 5, 23, 32, 258, 259, 1<<32 + 2, 1<<32 + 3, math.MaxInt}
	sizes := []int{math.MinInt, math.MinInt + 100, -1400, -100, -1, 0, 1, 2, 3, 100, 1399, 1400, 1401, 1 << 32, 1<<32 + 100, math.MaxInt}
	for _, kind := range kinds {
		for _, size := range sizes {
			c := Of(kind, size)
			if may := (kind == 2 || kind == 3) && size >= 1 && size <= 1400; may != (c != nil) {
				t.Errorf("P22.1: Of(%d, %d) is %v", kind, size, c)
			} else if may && c.Kind() != kind {
				t.Errorf("P22.1: Of(%d, %d): Kind is %d", kind, size, c.Kind())
			}
		}
	}
}

func TestOfEachSize(t *testing.T) {
	for size := 1; size <= 1400; size++ {
		two, three := Of(2, size), Of(3, size)
		w, leads := Window(two)
		if !leads || toldOfWin(w) != toldOfWin(win.New()) {
			t.Fatalf("P22.1: Of(2, %d) tells %s, %t", size, toldOfWin(w), leads)
		}
		b, has := Bucket(three)
		if !has || toldOfTfrc(Rate(three)) != toldOfTfrc(tfrc.New(size)) || toldOfPace(b) != toldOfPace(pace.New(1400, 10000)) {
			t.Fatalf("P22.1: Of(3, %d) tells %s; %s, %t", size, toldOfTfrc(Rate(three)), toldOfPace(b), has)
		}
	}
}

func TestEachOneIsItsOwn(t *testing.T) {
	for kind := 2; kind <= 3; kind++ {
		one, other := Of(kind, 100), Of(kind, 100)
		for range 3 {
			one.Sent(1000000, 1, 0)
		}
		one.Hear(1100000, sent.Heard{Got: []uint64{1}, Rtt: 1000}, 5, 5)
		if due, ok := other.Due(); due != 0 || ok {
			t.Errorf("P22.1: what one of kind %d does another one does: Due %d, %t", kind, due, ok)
		}
		if kind == 2 && !other.May(0, 0) || kind == 3 && Rate(other).Rate() != 6400 {
			t.Errorf("P22.1: what one of kind %d does another one does", kind)
		}
	}
	if a, b := Of(3, 1), Of(3, 1400); Rate(a).Rate() != 64 || Rate(b).Rate() != 89600 {
		t.Error("P22.1: each one's Tfrc is of its own size")
	}
}

// panicked is what Rate panicked with; nil: it did not.
func panicked(c Control) (with any) {
	defer func() { with = recover() }()
	Rate(c)
	return nil
}

func TestWhatTheyTellOfOthers(t *testing.T) {
	var none *foreign
	two, three := Of(2, 100), Of(3, 100)
	for _, x := range []struct {
		name                 string
		c                    Control
		window, rate, bucket bool
	}{
		{"2", two, true, false, false},
		{"3", three, false, true, true},
		{"nil", nil, false, false, false},
		{"what Of refuses", Of(2, 0), false, false, false},
		{"what Of refuses, too", Of(4, 100), false, false, false},
		{"a foreign one of Kind 2", &foreign{2}, false, false, false},
		{"a foreign one of Kind 3", &foreign{3}, false, false, false},
		{"a nil foreign one", none, false, false, false},
		{"one within another", wrapped{two}, false, false, false},
		{"one within another, too", &wrapped{three}, false, false, false},
		{"none within another", wrapped{}, false, false, false},
	} {
		w, ok := Window(x.c)
		if ok != x.window || (w != nil) != x.window {
			t.Errorf("P22.1: Window of %s: %v, %t", x.name, w, ok)
		}
		b, ok := Bucket(x.c)
		if ok != x.bucket || (b != nil) != x.bucket {
			t.Errorf("P22.1: Bucket of %s: %v, %t", x.name, b, ok)
		}
		with := panicked(x.c)
		if (with == nil) != x.rate {
			t.Errorf("P22.1: Rate of %s panics with %v", x.name, with)
		}
		if x.rate {
			continue
		}
		var wrong *runtime.TypeAssertionError
		if err, ok := with.(error); !ok || !errors.As(err, &wrong) {
			t.Errorf("P22.1: Rate of %s panics with %v, not as a type assertion does", x.name, with)
		}
	}
	if two.Kind() != 2 || !two.May(0, 0) {
		t.Error("P22.1: a Rate that panics leaves the Control as it is")
	}
}

func TestTheVeryOnes(t *testing.T) {
	two, three := Of(2, 100), Of(3, 100)
	w, _ := Window(two)
	b, _ := Bucket(three)
	r := Rate(three)
	for k := range int64(50) {
		for _, c := range []Control{two, three} {
			c.May(k*100000, 10)
			c.Sent(k*100000, uint64(k), 10)
			c.Hear(k*100000, sent.Heard{Got: []uint64{uint64(k)}, Rtt: k%5*1000 - 1}, 1<<20, 0)
			c.Fire(k * 100000)
		}
		again, _ := Window(two)
		same, _ := Bucket(three)
		if w != again || b != same || r != Rate(three) {
			t.Fatalf("P22.1: at call %d another one is told", k)
		}
	}
	play(t, "what the Win does", 2, 100,
		then{straight(func(w *win.Win) bool { return w.Sent(1, 0) && w.Sent(2, 0) && w.Sent(3, 0) }), true},
		then{may(0, 0), false},
		then{due(), "3000000 true"},
		then{straight(func(w *win.Win) bool { w.Hear(sent.Heard{Got: []uint64{1, 2}, Rtt: 1000}, 50); return true }), true},
		then{may(0, 0), true},
		then{due(), "200050 true"},
		then{straight(func(w *win.Win) bool { return w.Fire(200050) }), true},
		then{due(), "0 false"},
		then{fire(1 << 40), false},
	)
	play(t, "what the Pace does", 3, 100,
		then{may(0, 0), true},
		then{bucket(func(b *pace.Pace) bool { return b.Take(100*aByte, 60) }), true},
		then{may(100*aByte, 41), false},
		then{may(100*aByte, 40), true},
		then{send(100*aByte, 1, 40), true},
		then{bucket(func(b *pace.Pace) bool { return b.May(100*aByte, 1) }), false},
		then{bucket(func(b *pace.Pace) bool { return b.May(200*aByte, 100) }), true},
		then{may(150*aByte, 100), true},
	)
	play(t, "what the Tfrc does", 3, 100,
		then{its(func(r *tfrc.Tfrc) { r.Start(70) }), ""},
		then{due(), "2000070 true"},
		then{send(1000000, 1, 0), true},
		then{due(), "2000070 true"},
		then{fire(2000069), false},
		then{its(func(r *tfrc.Tfrc) { r.Fire(2000070) }), ""},
		then{fire(2000070), false},
		then{rate(), "3200 0 0 18446744073709551615"},
	)
}

// check holds a Control's run of a script against the second reckoning.
func check(t *testing.T, name string, kind, size int, script []call) bool {
	t.Helper()
	wants := reckonWindow(script)
	if kind == 3 {
		wants = reckonRate(size, script)
	}
	for k, got := range run(Of(kind, size), script) {
		if got != wants[k] {
			t.Errorf("P22.1: kind %d, size %d, %s, call %d, %v:\n%s, not\n%s", kind, size, name, k, script[k], got, wants[k])
			return false
		}
	}
	return true
}

func TestThrownScripts(t *testing.T) {
	r := rand.New(rand.NewSource(22))
	for k := range 1500 {
		script := throw(r, 120, k%3 == 2)
		if kind := 2 + k%2; !check(t, fmt.Sprint("script ", k), kind, 1+r.Intn(1400), script) {
			return
		}
	}
}

// All ways of four calls, at times that tell.
func TestAllShortScripts(t *testing.T) {
	some := []call{
		{what: callMay, n: 30},
		{what: callMay, n: -1},
		{what: callSent, n: 30, s: 1},
		{what: callHear, h: sent.Heard{Rtt: -1, Lost: []uint64{1}}, x: 5000, p: 9},
		{what: callHear, h: sent.Heard{Rtt: 90000, Got: []uint64{1, 2}}, x: 5000},
		{what: callHear, h: sent.Heard{Rtt: 1}, x: 1 << 40},
		{what: callHear, h: sent.Heard{Rtt: 500, Got: []uint64{3}}, x: 1 << 40, p: 1 << 28},
		{what: callFire},
		{what: straightHear, h: sent.Heard{Rtt: 5000}, x: 9000, p: 1 << 30},
		{what: straightFire},
		{what: straightTake, n: 30},
	}
	steps := []int64{1000000, 2000000, 300000, 4000000}
	for w := range len(some) * len(some) * len(some) * len(some) {
		var script []call
		now := int64(0)
		for k, rest := 0, w; k < len(steps); k++ {
			a := some[rest%len(some)]
			now += steps[k]
			a.now = now
			script = append(script, a)
			rest /= len(some)
		}
		for kind := 2; kind <= 3; kind++ {
			if !check(t, fmt.Sprint("way ", w), kind, 700, script) {
				return
			}
		}
	}
}

func TestHearLeavesItsLists(t *testing.T) {
	for kind := 2; kind <= 3; kind++ {
		one, other := Of(kind, 100), Of(kind, 100)
		all := []uint64{1, 2, 3, 4, 5, 6, 7, 8, 9, 10, 11, 12}
		h := sent.Heard{Got: all[1:3:5], Late: all[5:6:8], Lost: all[8:10], Marks: 1, Rtt: 1000}
		one.Sent(0, 9, 0)
		one.Hear(10, h, 5000, 7)
		if want := []uint64{1, 2, 3, 4, 5, 6, 7, 8, 9, 10, 11, 12}; !slices.Equal(all, want) {
			t.Errorf("P0.3: Hear of kind %d writes into what it is handed: %v", kind, all)
		}
		other.Sent(0, 9, 0)
		other.Hear(10, sent.Heard{Got: []uint64{2, 3}, Late: []uint64{6}, Lost: []uint64{9, 10}, Marks: 1, Rtt: 1000}, 5000, 7)
		for k := range all {
			all[k] = 1 << 40
		}
		script := throw(rand.New(rand.NewSource(3)), 60, false)
		if !slices.Equal(run(one, script), run(other, script)) {
			t.Errorf("P0.3: Hear of kind %d keeps what it is handed", kind)
		}
	}
}

func TestNilListsAreEmptyOnes(t *testing.T) {
	for kind := 2; kind <= 3; kind++ {
		one, other := Of(kind, 100), Of(kind, 100)
		for _, rtt := range []int64{-1, 0, 1000} {
			one.Sent(0, 9, 0)
			other.Sent(0, 9, 0)
			one.Hear(10, sent.Heard{Marks: 1, Rtt: rtt}, 5, 5)
			other.Hear(10, sent.Heard{Got: []uint64{}, Late: []uint64{}, Lost: []uint64{}, Marks: 1, Rtt: rtt}, 5, 5)
		}
		script := throw(rand.New(rand.NewSource(4)), 60, false)
		if !slices.Equal(run(one, script), run(other, script)) {
			t.Errorf("P0.4: kind %d takes nil lists for others than empty ones", kind)
		}
	}
}

// Each call with each far argument ends, and answers what the second reckoning does.
func TestFarArguments(t *testing.T) {
	times := []int64{math.MinInt64, -1, 0, 1, never - 1, never, never + 1, math.MaxInt64}
	numbers := []uint64{0, 1, 1 << 32, 1<<32 + 1, 1 << 48, 1<<50 + 1, math.MaxUint64}
	long := make([]uint64, 100000)
	var script []call
	for _, now := range times {
		for k, x := range numbers {
			for _, other := range times {
				h := sent.Heard{Got: long[:k*k*k*400], Lost: []uint64{x}, Marks: int(other), Rtt: other}
				for what := range straightStart {
					script = append(script, call{what: what, now: now, n: int(other), s: x, h: h, x: x, p: numbers[len(numbers)-1-k]})
				}
			}
		}
	}
	for kind := 2; kind <= 3; kind++ {
		for _, size := range []int{1, 1400} {
			check(t, "in order", kind, size, script)
			backward := slices.Clone(script)
			slices.Reverse(backward)
			check(t, "backward", kind, size, backward)
		}
	}
}

// What one Control answers hangs on what it was told alone.
func TestSideBySide(t *testing.T) {
	r := rand.New(rand.NewSource(5))
	for kind := 2; kind <= 3; kind++ {
		script := throw(r, 200, false)
		want := run(Of(kind, 500), script)
		one, other := Of(kind, 500), Of(kind, 500)
		for k := range script {
			got, same := run(one, script[k:k+1])[0], run(other, script[k:k+1])[0]
			if got != want[k] || same != want[k] {
				t.Fatalf("P0.5: kind %d, call %d, %v: %s and %s, not %s", kind, k, script[k], got, same, want[k])
			}
		}
	}
}
