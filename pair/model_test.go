package pair

import (
	"fmt"
	"math"
	"math/rand"
	"strings"
	"testing"

	"muleteer/api"
	"muleteer/end"
)

// face is what a Pair and its mirror have alike.
type face interface {
	Do(k api.Pick) bool
	Calm(d int64, most int) bool
	End(i int) *end.End
	Way(i int) []string
	Sent(i int) []string
	Now() int64
}

// snap tells all that a pair tells.
func snap(p face) string {
	text := fmt.Sprint(p.Now())
	for i := range 2 {
		e := p.End(i)
		due, ok := e.Due()
		text += fmt.Sprintf("; end %d: %v %v %v %d %d %d %v", i, e.State(), e.View(), e.Taken(), e.Waiting(), e.Dropped(), due, ok)
		for _, f := range []int{api.FCcid, api.FWindow, api.FVector, api.FCover} {
			text += fmt.Sprintf(" %x %x", e.Mine(f), e.Theirs(f))
		}
		text += fmt.Sprintf("; %q; %q", p.Way(i), p.Sent(i))
	}
	return text
}

// flight is a packet, by whom it was sent.
type flight struct {
	from int
	b    string
}

// mirror is a second reckoning, from the chapter's words: all that flies, both ways in one list, and all that ever was sent.
type mirror struct {
	ends  [2]*end.End
	air   []flight
	ever  []flight
	texts [2]int
	now   int64
}

func reflect(a, b api.Setup) *mirror {
	return &mirror{ends: [2]*end.End{end.New(a), end.New(b)}}
}

func (m *mirror) End(i int) *end.End  { return m.ends[i] }
func (m *mirror) Now() int64          { return m.now }
func (m *mirror) Way(i int) []string  { return from(m.air, 1-i) }
func (m *mirror) Sent(i int) []string { return from(m.ever, i) }

func from(l []flight, i int) []string {
	var out []string
	for _, f := range l {
		if f.from == i {
			out = append(out, f.b)
		}
	}
	return out
}

func (m *mirror) goes(i int, l []string) {
	for _, b := range l {
		m.ever = append(m.ever, flight{i, b})
		if len(m.Way(1-i)) < 300 {
			m.air = append(m.air, flight{i, b})
		}
	}
}

// take takes the first one to end i out of the air.
func (m *mirror) take(i int) (string, bool) {
	for j, f := range m.air {
		if f.from != i {
			m.air = append(append([]flight{}, m.air[:j]...), m.air[j+1:]...)
			return f.b, true
		}
	}
	return "", false
}

func (m *mirror) comes(i int, b string) { m.goes(i, m.ends[i].Recv(m.now, b)) }

func (m *mirror) until(now int64) {
	m.now = now
	m.goes(0, m.ends[0].Clock(now))
	m.goes(1, m.ends[1].Clock(now))
}

func (m *mirror) Do(k api.Pick) bool {
	if k.Kind == api.KClock {
		if k.N < 0 || k.N > 1099511627776 {
			return false
		}
		m.until(m.now + int64(k.N))
		return true
	}
	if k.I != 0 && k.I != 1 {
		return false
	}
	var l []string
	switch k.Kind {
	case api.KOpen:
		l, _ = m.ends[k.I].Open(m.now)
	case api.KClose:
		l, _ = m.ends[k.I].Close(m.now)
	case api.KSubmit:
		if k.N < 0 || k.N > 1400 {
			return false
		}
		d := ""
		for range k.N {
			d += "abcdefghijklmnopqrstuvwxyz"[m.texts[k.I] : m.texts[k.I]+1]
		}
		if m.texts[k.I]++; m.texts[k.I] == 26 {
			m.texts[k.I] = 0
		}
		l, _ = m.ends[k.I].Submit(m.now, d)
	case api.KRaw:
		if len(k.Raw) > 3000 {
			return false
		}
		l = m.ends[k.I].Recv(m.now, k.Raw)
	case api.KPass, api.KLose, api.KAgain, api.KSpoil, api.KLater:
		return m.befalls(k)
	default:
		return false
	}
	m.goes(k.I, l)
	return true
}

func (m *mirror) befalls(k api.Pick) bool {
	was := m.air
	b, ok := m.take(k.I)
	if !ok {
		return false
	}
	switch k.Kind {
	case api.KPass:
		m.comes(k.I, b)
	case api.KAgain:
		m.air = was
		m.comes(k.I, b)
	case api.KLater:
		m.air = append(m.air, flight{1 - k.I, b})
	case api.KSpoil:
		bytes := []byte(b)
		n := k.N
		for n < 0 {
			n += 8 * len(b)
		}
		n %= 8 * len(b)
		bytes[n>>3] ^= []byte{1, 2, 4, 8, 16, 32, 64, 128}[n&7]
		m.comes(k.I, string(bytes))
	}
	return true
}

func (m *mirror) Calm(d int64, most int) bool {
	for turn := 0; ; turn++ {
		least := int64(math.MaxInt64)
		for _, e := range m.ends {
			if at, ok := e.Due(); ok && at < least {
				least = at
			}
		}
		if len(m.air) == 0 && (least == math.MaxInt64 || least-m.now > d) {
			return true
		}
		if turn >= most {
			return false
		}
		if len(m.air) == 0 {
			m.until(least)
			continue
		}
		for i := range 2 {
			for b, ok := m.take(i); ok; b, ok = m.take(i) {
				m.comes(i, b)
			}
		}
	}
}

// thrown is a setup.
func thrown(r *rand.Rand, server bool) api.Setup {
	s := setup(server, [][]int{{2}, {3}, {2, 3}, {3, 2}}[r.Intn(4)]...)
	s.Window = []int{32, 33, 100, 1000, 32 + r.Intn(969)}[r.Intn(5)]
	s.Size = 1 + r.Intn(1400)
	if r.Intn(3) == 0 {
		s.Iss = 1<<48 - 1 - uint64(r.Intn(20))
	}
	return s
}

// anyPick is a pick, of all kinds, also such as can't be done.
func anyPick(r *rand.Rand, p face) api.Pick {
	k := api.Pick{Kind: r.Intn(14) - 1, I: r.Intn(2), N: r.Intn(1500)}
	if r.Intn(2) == 0 {
		k.Kind = []int{api.KPass, api.KPass, api.KPass, api.KAgain, api.KSubmit, api.KSubmit}[r.Intn(6)]
	}
	switch r.Intn(40) {
	case 0:
		k.I = r.Intn(5) - 2
	case 1:
		k.N = []int{-1, 0, 1400, 1401, 1 << 40, 1<<40 + 1, -r.Intn(100000)}[r.Intn(7)]
	}
	switch k.Kind {
	case api.KClose:
		// a pair that closes has little to tell
		if r.Intn(20) > 0 {
			k.Kind = api.KOpen
		}
	case api.KClock:
		k.N <<= r.Intn(14)
	case api.KRaw:
		k.Raw = strings.Repeat("x", []int{0, 20, 3000, 3001}[r.Intn(4)])
		if l := p.Sent(r.Intn(2)); len(l) > 0 && r.Intn(2) == 0 {
			k.Raw = l[r.Intn(len(l))]
		}
	}
	return k
}

// The pair does what the mirror does, whatever is picked.
func TestMirror(t *testing.T) {
	done := map[int]int{}
	for seed := range int64(150) {
		r := rand.New(rand.NewSource(seed))
		a, b := thrown(r, seed%5 == 0), thrown(r, seed%5 < 4)
		p, m := New(a, b), reflect(a, b)
		for n := range 200 {
			if r.Intn(30) == 0 {
				d, most := int64(r.Intn(1<<uint(r.Intn(28)))-1), r.Intn(12)-1
				if got, want := p.Calm(d, most), m.Calm(d, most); got != want {
					t.Fatalf("P25.1, pair %d, %d: Calm(%d, %d): %v", seed, n, d, most, got)
				}
			}
			k := anyPick(r, m)
			got, want := p.Do(k), m.Do(k)
			if got != want {
				t.Fatalf("P25.1, pair %d, %d: Do(%v): %v", seed, n, k, got)
			}
			if got {
				done[k.Kind]++
			}
			if n%10 == 9 || n < 20 {
				if got, want := snap(p), snap(m); got != want {
					t.Fatalf("P25.1, pair %d, %d: Do(%v): %s, not %s", seed, n, k, got, want)
				}
			}
		}
	}
	for kind := api.KOpen; kind <= api.KClock; kind++ {
		if done[kind] < 50 {
			t.Errorf("the draws are poor: kind %d was done %d times", kind, done[kind])
		}
	}
}
