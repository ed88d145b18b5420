package ctrl

import (
	"fmt"
	"math/rand"

	"muleteer/pace"
	"muleteer/sent"
	"muleteer/tfrc"
	"muleteer/win"
)

// The calls of a script: those of a Control, and those of the very ones that Window, Rate and Bucket tell.
const (
	callMay = iota
	callSent
	callHear
	callFire
	straightStart
	straightHear
	straightFire
	straightMay
	straightTake
	calls
)

// call is one call of a script.
type call struct {
	what    int
	now     int64
	n       int
	s       uint64
	h       sent.Heard
	x, p    uint64
	limited bool
}

func (a call) String() string {
	return fmt.Sprint([...]string{"May", "Sent", "Hear", "Fire", "its Start", "its Hear", "its Fire", "its May", "its Take"}[a.what],
		" now ", a.now, " n ", a.n, " s ", a.s, " h ", a.h, " x ", a.x, " p ", a.p, " ", a.limited)
}

// straight tells whether the call goes past the Control, to the very one that it stands on.
func (a call) straight() bool { return a.what >= straightStart }

// onControl does a call on a Control; false: it goes past it.
func (a call) onControl(c Control) (string, bool) {
	switch a.what {
	case callMay:
		return fmt.Sprint(c.May(a.now, a.n)), true
	case callSent:
		return fmt.Sprint(c.Sent(a.now, a.s, a.n)), true
	case callHear:
		c.Hear(a.now, a.h, a.x, a.p)
		return "", true
	case callFire:
		return fmt.Sprint(c.Fire(a.now)), true
	}
	return "", false
}

// onTfrc does what a call does to a Tfrc, by the chapter's words.
func (a call) onTfrc(t *tfrc.Tfrc) string {
	switch a.what {
	case callSent, straightStart:
		t.Start(a.now)
	case callHear:
		if a.h.Rtt >= 0 {
			t.Hear(a.now, a.h.Rtt, a.x, a.p, false)
		}
	case straightHear:
		t.Hear(a.now, a.h.Rtt, a.x, a.p, a.limited)
	case callFire, straightFire:
		return fmt.Sprint(t.Fire(a.now))
	}
	return ""
}

// onPace does what a call does to a Pace, but for giving it the rate.
func (a call) onPace(b *pace.Pace) string {
	switch a.what {
	case callMay, straightMay:
		return fmt.Sprint(b.May(a.now, a.n))
	case callSent, straightTake:
		return fmt.Sprint(b.Take(a.now, a.n))
	}
	return ""
}

// onWin does what a call does to a Win, by the chapter's words.
func (a call) onWin(w *win.Win) string {
	switch a.what {
	case callMay, straightMay:
		return fmt.Sprint(w.May())
	case callSent, straightStart, straightTake:
		return fmt.Sprint(w.Sent(a.s, a.now))
	case callHear, straightHear:
		w.Hear(a.h, a.now)
	case callFire, straightFire:
		return fmt.Sprint(w.Fire(a.now))
	}
	return ""
}

func toldOfWin(w *win.Win) string {
	due, runs := w.Due()
	return fmt.Sprint("Cwnd ", w.Cwnd(), " Slow ", w.Slow(), " Pipe ", w.Pipe(), " May ", w.May(), " Due ", due, runs)
}

func toldOfTfrc(t *tfrc.Tfrc) string {
	due, runs := t.Due()
	return fmt.Sprint("Rate ", t.Rate(), " Rtt ", t.Rtt(), " Loss ", t.Loss(), " Top ", t.Top(), " Due ", due, runs)
}

// toldOfPace has in When(0) the time of the last call, in the others what the bucket has and gets.
func toldOfPace(b *pace.Pace) string {
	return fmt.Sprint("Cap ", b.Cap(), " When ", b.When(0), b.When(1), b.When(100), b.When(1400), b.When(20000), b.When(65535))
}

// reckonWindow is what each call of a script tells, and what is told behind it, of kind 2.
func reckonWindow(script []call) []string {
	w := win.New()
	var out []string
	for _, a := range script {
		out = append(out, a.onWin(w)+"; "+toldOfWin(w))
	}
	return out
}

// reckonRate is the same of kind 3: a Tfrc goes through the whole script first; then a Pace does, at the rates that the Tfrc had.
func reckonRate(size int, script []call) []string {
	t := tfrc.New(size)
	var ahead, behind []uint64
	var answers, states []string
	for _, a := range script {
		ahead = append(ahead, t.Rate())
		answers = append(answers, a.onTfrc(t))
		behind = append(behind, t.Rate())
		states = append(states, toldOfTfrc(t))
	}
	b, seen := pace.New(1400, 10000), -1
	var out []string
	for k, a := range script {
		if !a.straight() {
			if seen < 0 || ahead[k] != behind[seen] {
				b.Rate(a.now, ahead[k])
			}
			seen = k
		}
		answer := a.onPace(b)
		if !a.straight() && behind[k] != ahead[k] {
			b.Rate(a.now, behind[k])
		}
		out = append(out, answers[k]+answer+"; "+states[k]+"; "+toldOfPace(b))
	}
	return out
}

// run is what a Control tells at each call of a script, and what is told behind it.
func run(c Control, script []call) []string {
	w, leads := Window(c)
	var out []string
	for _, a := range script {
		answer, did := a.onControl(c)
		switch {
		case leads:
			if !did {
				answer = a.onWin(w)
			}
			out = append(out, answer+"; "+toldOfWin(w))
		default:
			b, _ := Bucket(c)
			if !did {
				answer = a.onTfrc(Rate(c)) + a.onPace(b)
			}
			out = append(out, answer+"; "+toldOfTfrc(Rate(c))+"; "+toldOfPace(b))
		}
	}
	return out
}

// throw is a script; far: its times and numbers are of any greatness.
func throw(r *rand.Rand, length int, far bool) []call {
	now := r.Int63n(1 << uint(1+r.Intn(30)))
	var script []call
	for range length {
		switch r.Intn(6) {
		case 0:
		case 1:
			now += r.Int63n(4000000)
		default:
			now += r.Int63n(1 << uint(1+r.Intn(18)))
		}
		a := call{what: r.Intn(calls), now: now, n: r.Intn(1500), s: uint64(r.Intn(40)), limited: r.Intn(2) == 0}
		if r.Intn(3) > 0 {
			a.what = r.Intn(straightStart)
		}
		if r.Intn(10) == 0 {
			a.now -= r.Int63n(1000000)
		}
		if r.Intn(10) == 0 {
			a.n = r.Intn(70000) - 1000
		}
		a.h = sent.Heard{Got: throwNumbers(r), Late: throwNumbers(r), Lost: throwNumbers(r), Marks: r.Intn(2), Rtt: r.Int63n(200000) - 20000}
		a.x, a.p = r.Uint64()>>uint(14+r.Intn(50)), r.Uint64()>>uint(32+r.Intn(32))
		if r.Intn(3) > 0 {
			a.p = 0
		}
		if far && r.Intn(4) == 0 {
			a.now, a.n, a.s = int64(r.Uint64()), int(r.Uint64()), r.Uint64()
			a.x, a.p, a.h.Rtt = r.Uint64(), r.Uint64(), int64(r.Uint64())
		}
		script = append(script, a)
	}
	return script
}

func throwNumbers(r *rand.Rand) []uint64 {
	var ns []uint64
	for n := range uint64(40) {
		if r.Intn(30) == 0 {
			ns = append(ns, n)
		}
	}
	return ns
}
