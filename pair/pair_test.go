package pair

import (
	"fmt"
	"math"
	"slices"
	"strings"
	"testing"

	"muleteer/api"
	"muleteer/opt"
	"muleteer/pkt"
)

// setup is of 1,000 bytes and a window of 100; a client begins with 100, a server with 5000.
func setup(server bool, ccids ...int) api.Setup {
	s := api.Setup{Server: server, Iss: 100, Src: 5, Dst: 6, Service: 77, Ccids: ccids, Size: 1000, Window: 100}
	if server {
		s.Iss, s.Src, s.Dst = 5000, 6, 5
	}
	return s
}

// told tells packets by type and number.
func told(l []string) string {
	var out []string
	for _, b := range l {
		p, errno := pkt.Get(b)
		if errno != api.OK || !p.Head.X {
			return fmt.Sprintf("bad: %x", b)
		}
		out = append(out, fmt.Sprintf("%d:%d", p.Head.Type, p.Head.Seq))
	}
	return strings.Join(out, " ")
}

// ways tells what is on its way to end 0, and to end 1.
func ways(p *Pair) string { return told(p.Way(0)) + " | " + told(p.Way(1)) }

// do does picks that can be done.
func do(t *testing.T, p *Pair, ks ...api.Pick) {
	t.Helper()
	for _, k := range ks {
		if !p.Do(k) {
			t.Fatalf("P25.1: Do(%v) told false", k)
		}
	}
}

func pick(kind, i int) api.Pick { return api.Pick{Kind: kind, I: i} }

func submit(i, n int) api.Pick { return api.Pick{Kind: api.KSubmit, I: i, N: n} }

func clock(n int) api.Pick { return api.Pick{Kind: api.KClock, N: n} }

// pairOf is a client, end 0, and a server, end 1, not opened.
func pairOf() *Pair { return New(setup(false, 2), setup(true, 2)) }

// asked is a pair that is opened: the Request is on its way.
func asked(t *testing.T) *Pair {
	t.Helper()
	p := pairOf()
	do(t, p, pick(api.KOpen, 1), pick(api.KOpen, 0))
	return p
}

// opened is a pair of which both are open, and nothing is on its way: 100, 101 and 5000, 5001 were sent.
func opened(t *testing.T) *Pair {
	t.Helper()
	p := asked(t)
	do(t, p, pick(api.KPass, 1), pick(api.KPass, 0), pick(api.KPass, 1), pick(api.KPass, 0))
	if ways(p) != " | " || p.End(0).State() != api.SOpen || p.End(1).State() != api.SOpen {
		t.Fatalf("P25.1: opening: %s; %d, %d", ways(p), p.End(0).State(), p.End(1).State())
	}
	return p
}

// laden is such a pair with three datagrams on their way to end 1: 102, 103, 104.
func laden(t *testing.T) *Pair {
	t.Helper()
	p := opened(t)
	do(t, p, submit(0, 1), submit(0, 2), submit(0, 3))
	return p
}

func TestNew(t *testing.T) {
	a, b, bad := setup(false, 2), setup(true, 3, 2), setup(false)
	for _, x := range [][2]api.Setup{{a, bad}, {bad, a}, {bad, bad}, {api.Setup{}, b}, {b, api.Setup{}}} {
		if New(x[0], x[1]) != nil {
			t.Errorf("P25.1: New(%v)", x)
		}
	}
	for _, x := range [][2]api.Setup{{a, b}, {b, a}, {a, a}, {b, b}} {
		p := New(x[0], x[1])
		if p == nil || p.Now() != 0 || ways(p) != " | " || len(p.Sent(0))+len(p.Sent(1)) != 0 {
			t.Fatalf("P25.1: New(%v): %v", x, p)
		}
		for i := range 2 {
			do(t, p, pick(api.KOpen, i))
			if p.End(i).View().Iss != x[i].Iss || (p.End(i).State() == api.SListen) != x[i].Server {
				t.Errorf("P25.1: New(%v): end %d: %v", x, i, p.End(i).View())
			}
		}
	}
	// what is handed in is neither changed nor kept
	roomy := append(make([]int, 0, 9), 3, 2)
	a.Ccids = roomy
	p := New(a, b)
	roomy[0] = 2
	if roomy[:3][2] != 0 {
		t.Error("P0.3: the spare room")
	}
	do(t, p, pick(api.KOpen, 0))
	q, _ := pkt.Get(p.Way(1)[0])
	if wish, _ := opt.Find(q.Opts, api.OChangeL); wish != "\x01\x03\x02" {
		t.Errorf("P0.3: it asks for %q", wish)
	}
}

func TestWhichEnd(t *testing.T) {
	for _, i := range []int{-1, 2, 3, math.MinInt, math.MaxInt, 256, 1 << 32, -1 << 63, 1<<32 + 1} {
		p := laden(t)
		do(t, p, pick(api.KPass, 1))
		before := snap(p)
		for kind := api.KOpen; kind <= api.KRaw; kind++ {
			if p.Do(pick(kind, i)) {
				t.Errorf("P25.1: kind %d of end %d is done", kind, i)
			}
		}
		if p.End(i) != nil || len(p.Way(i)) != 0 || len(p.Sent(i)) != 0 {
			t.Errorf("P25.1: there is an end %d", i)
		}
		if snap(p) != before {
			t.Errorf("P25.1: what is not done to end %d changes %s to %s", i, before, snap(p))
		}
		if !p.Do(pick(api.KClock, i)) {
			t.Errorf("P25.1: KClock asks for no end, and %d stops it", i)
		}
	}
	p := pairOf()
	if p.End(0) == nil || p.End(0) != p.End(0) || p.End(1) == nil || p.End(0) == p.End(1) {
		t.Error("P25.1: not the very ends")
	}
	// what is done to the very one is done to the pair's
	p.End(1).Open(0)
	if do(t, p, pick(api.KOpen, 1)); p.End(1).State() != api.SListen {
		t.Error("P25.1: not the very end")
	}
}

func TestWhichKind(t *testing.T) {
	for _, kind := range []int{0, -1, 11, 12, math.MinInt, math.MaxInt, 1<<32 + 1, 260} {
		p := laden(t)
		before := snap(p)
		if p.Do(api.Pick{Kind: kind, I: 1, N: 1, Raw: "x"}) || snap(p) != before {
			t.Errorf("P25.1: kind %d is done", kind)
		}
	}
}

func TestOpenAndClose(t *testing.T) {
	p := pairOf()
	// what the ends say to it is no matter, and N and Raw count nothing
	far := strings.Repeat("x", 4000)
	do(t, p, pick(api.KClose, 0), api.Pick{Kind: api.KClose, I: 1, N: -1, Raw: far})
	do(t, p, api.Pick{Kind: api.KOpen, I: 1, N: 1401, Raw: far}, api.Pick{Kind: api.KOpen, N: -1, Raw: far})
	if ways(p) != " | 0:100" || p.End(1).State() != api.SListen {
		t.Errorf("P25.1: KOpen: %s, %d", ways(p), p.End(1).State())
	}
	do(t, p, pick(api.KOpen, 0), pick(api.KOpen, 1))
	if ways(p) != " | 0:100" || p.End(0).State() != api.SRequest {
		t.Errorf("P25.1: KOpen again: %s", ways(p))
	}
	p = opened(t)
	do(t, p, pick(api.KClose, 1))
	if ways(p) != "5:5002 | " || p.End(1).State() != api.SCloseReq || p.End(0).State() != api.SOpen {
		t.Errorf("P25.1: KClose of a server: %s", ways(p))
	}
	do(t, p, pick(api.KClose, 1), pick(api.KClose, 0))
	if ways(p) != "5:5002 | 6:102" || p.End(0).State() != api.SClosing {
		t.Errorf("P25.1: KClose of a client: %s", ways(p))
	}
	do(t, p, pick(api.KPass, 1), pick(api.KPass, 0), pick(api.KPass, 0))
	if p.End(1).State() != api.SClosed || p.End(0).State() != api.STimeWait {
		t.Errorf("P25.1: what closing comes to: %d, %d", p.End(0).State(), p.End(1).State())
	}
}

func TestSubmit(t *testing.T) {
	p := pairOf()
	for _, n := range []int{-1, 1401, math.MinInt, math.MaxInt, 1 << 32, 1 << 16} {
		if p.Do(submit(0, n)) || p.Do(submit(1, n)) {
			t.Errorf("P25.1: %d bytes are handed over", n)
		}
	}
	// a and b are refused, as it is not open, and q of end 0 as there is no room; so is what end 1 gets ahead of its n
	do(t, p, submit(0, 0), submit(0, 1400), pick(api.KOpen, 1), pick(api.KOpen, 0))
	for n := range 17 {
		do(t, p, submit(0, n))
	}
	for range 13 {
		do(t, p, clock(0), submit(1, 5))
	}
	if p.End(0).Waiting() != 16 || p.End(1).Waiting() != 13 {
		t.Fatalf("P25.1: Waiting %d, %d", p.End(0).Waiting(), p.End(1).Waiting())
	}
	var want []string
	for n := range 16 {
		want = append(want, strings.Repeat(string(rune('c'+n)), n))
	}
	if !p.Calm(0, 99) {
		t.Fatal("P25.1: no end")
	}
	if got := p.End(1).Taken(); !slices.Equal(got, want) {
		t.Errorf("P25.1: KSubmit: %q, not %q", got, want)
	}
	if got := strings.Join(p.End(0).Taken(), ""); got != "aaaaabbbbbcccccdddddeeeeefffffggggghhhhhiiiiijjjjjkkkkklllllmmmmm" {
		t.Errorf("P25.1: KSubmit of end 1: %q", got)
	}
	// t is the next one, and behind z comes a; what is not done does not count
	for range 60 {
		do(t, p, submit(0, 1))
		p.Do(submit(0, 1401))
		p.Do(submit(0, -1))
		p.Do(submit(2, 1))
		p.Calm(0, 99)
	}
	letters := "tuvwxyz" + strings.Repeat("abcdefghijklmnopqrstuvwxyz", 2) + "a"
	if got := strings.Join(p.End(1).Taken()[16:], ""); got != letters {
		t.Errorf("P25.1: KSubmit: %q", got)
	}
	do(t, p, submit(0, 1400))
	p.Calm(0, 99)
	if got := p.End(1).Taken()[76]; got != strings.Repeat("b", 1400) {
		t.Errorf("P25.1: KSubmit of 1400: %q", got)
	}
	// behind a Close it is done, and does nothing
	do(t, p, pick(api.KClose, 0), submit(0, 7))
	if len(p.Way(1)) != 1 || p.End(0).Waiting() != 0 {
		t.Errorf("P25.1: KSubmit behind KClose: %s", ways(p))
	}
}

func TestMoves(t *testing.T) {
	for _, x := range []struct {
		k     api.Pick
		ways  string
		taken string
		drops int
	}{
		{pick(api.KPass, 1), "3:5002 | 4:103 4:104", "[a]", 0},
		{pick(api.KLose, 1), " | 4:103 4:104", "[]", 0},
		{pick(api.KAgain, 1), "3:5002 | 4:102 4:103 4:104", "[a]", 0},
		{api.Pick{Kind: api.KSpoil, I: 1, N: 3}, " | 4:103 4:104", "[]", 1},
		{pick(api.KLater, 1), " | 4:103 4:104 4:102", "[]", 0},
		// N and Raw count nothing
		{api.Pick{Kind: api.KPass, I: 1, N: -1, Raw: "x"}, "3:5002 | 4:103 4:104", "[a]", 0},
		{api.Pick{Kind: api.KLater, I: 1, N: 1401, Raw: "x"}, " | 4:103 4:104 4:102", "[]", 0},
	} {
		p := laden(t)
		// nothing is on its way to end 0
		before := snap(p)
		if p.Do(api.Pick{Kind: x.k.Kind, N: x.k.N}) || snap(p) != before {
			t.Errorf("P25.1: %v is done to nothing", x.k)
		}
		do(t, p, x.k)
		if got := fmt.Sprint(p.End(1).Taken()); ways(p) != x.ways || got != x.taken || p.End(1).Dropped() != x.drops || p.Now() != 0 {
			t.Errorf("P25.1: %v: %s, %s, %d; not %v", x.k, ways(p), got, p.End(1).Dropped(), x)
		}
		if told(p.Sent(0)) != "0:100 3:101 4:102 4:103 4:104" {
			t.Errorf("P25.1: Sent behind %v: %s", x.k, told(p.Sent(0)))
		}
	}
	// one alone goes behind itself
	p := asked(t)
	do(t, p, pick(api.KLater, 1), pick(api.KLater, 1))
	if ways(p) != " | 0:100" {
		t.Errorf("P25.1: KLater of one: %s", ways(p))
	}
	// one after the other, to the last one
	p = laden(t)
	do(t, p, pick(api.KLater, 1), pick(api.KAgain, 1), pick(api.KAgain, 1), pick(api.KLater, 1), pick(api.KPass, 1), pick(api.KPass, 1), pick(api.KPass, 1))
	if fmt.Sprint(p.End(1).Taken()) != "[bb ccc a]" || ways(p) != "3:5002 3:5003 3:5004 3:5005 3:5006 | " || p.Do(pick(api.KPass, 1)) {
		t.Errorf("P25.1: moves: %v, %s", p.End(1).Taken(), ways(p))
	}
}

func TestSpoil(t *testing.T) {
	p := laden(t)
	b := p.Way(1)[0]
	bits := 8 * len(b)
	seen := map[string]bool{}
	for n := -bits; n < 2*bits; n++ {
		s := spoiled(b, n)
		turned := 0
		for j := range len(b) {
			for x := s[j] ^ b[j]; x > 0; x &= x - 1 {
				turned++
			}
		}
		if len(s) != len(b) || turned != 1 || s != spoiled(b, n+bits) || s != spoiled(b, n-7*bits) {
			t.Fatalf("P25.1: bit %d: %d are turned", n, turned)
		}
		seen[s] = true
	}
	if len(seen) != bits {
		t.Errorf("P25.1: of %d bits %d can be turned", bits, len(seen))
	}
	// whichever it is, an end sees it
	for _, n := range []int{0, 1, 7, 8, bits - 1, bits, bits + 1, -1, -bits, math.MinInt, math.MaxInt} {
		p := laden(t)
		view, state := p.End(1).View(), p.End(1).State()
		do(t, p, api.Pick{Kind: api.KSpoil, I: 1, N: n})
		if ways(p) != " | 4:103 4:104" || p.End(1).Dropped() != 1 || p.End(1).View() != view || p.End(1).State() != state {
			t.Errorf("P25.1: KSpoil of %d: %s, Dropped %d", n, ways(p), p.End(1).Dropped())
		}
	}
}

func TestRaw(t *testing.T) {
	p := laden(t)
	sent := p.Sent(0)
	for k, raw := range []string{"", "x", strings.Repeat("x", 2500), strings.Repeat("x", 3000)} {
		do(t, p, api.Pick{Kind: api.KRaw, I: 1, N: -1, Raw: raw})
		if p.End(1).Dropped() != k+1 || ways(p) != " | 4:102 4:103 4:104" {
			t.Errorf("P25.1: KRaw of %d bytes: Dropped %d, %s", len(raw), p.End(1).Dropped(), ways(p))
		}
	}
	before := snap(p)
	for _, n := range []int{3001, 3002, 9000} {
		if p.Do(api.Pick{Kind: api.KRaw, I: 1, Raw: strings.Repeat("x", n)}) || snap(p) != before {
			t.Errorf("P25.1: KRaw of %d bytes is done", n)
		}
	}
	// what could have been sent is taken as if it were, ahead of all on the way
	do(t, p, api.Pick{Kind: api.KRaw, I: 1, Raw: sent[3]})
	if fmt.Sprint(p.End(1).Taken()) != "[bb]" || ways(p) != "3:5002 | 4:102 4:103 4:104" || !slices.Equal(p.Sent(0), sent) {
		t.Errorf("P25.1: KRaw: %v, %s", p.End(1).Taken(), ways(p))
	}
	do(t, p, api.Pick{Kind: api.KRaw, I: 0, Raw: p.Way(0)[0]})
	if ways(p) != "3:5002 | 4:102 4:103 4:104" || p.End(0).View().Gsr != 5002 {
		t.Errorf("P25.1: KRaw to end 0: %s", ways(p))
	}
}

func TestClock(t *testing.T) {
	p := pairOf()
	for _, n := range []int{-1, 1<<40 + 1, math.MinInt, math.MaxInt} {
		if p.Do(clock(n)) || p.Now() != 0 {
			t.Errorf("P25.1: KClock of %d", n)
		}
	}
	do(t, p, clock(0), clock(5), clock(1<<40), clock(1))
	if p.Now() != 1<<40+6 {
		t.Errorf("P25.1: KClock: %d", p.Now())
	}
	// both Clocks are called, whichever end is named
	a, b := setup(false, 2), setup(false, 2)
	b.Iss = 200
	p = New(a, b)
	do(t, p, clock(10), pick(api.KOpen, 0), clock(10), pick(api.KOpen, 1))
	do(t, p, clock(999989))
	if ways(p) != "0:200 | 0:100" {
		t.Errorf("P25.1: KClock ahead of the time: %s", ways(p))
	}
	do(t, p, api.Pick{Kind: api.KClock, I: 1, N: 1})
	if ways(p) != "0:200 | 0:100 0:101" || p.Now() != 1000010 {
		t.Errorf("P25.1: KClock: %s", ways(p))
	}
	do(t, p, api.Pick{Kind: api.KClock, I: 0, N: 10})
	if ways(p) != "0:200 0:201 | 0:100 0:101" {
		t.Errorf("P25.1: KClock: %s", ways(p))
	}
	do(t, p, clock(1<<40))
	if ways(p) != "0:200 0:201 0:202 | 0:100 0:101 0:102" {
		t.Errorf("P25.1: both Clocks: %s", ways(p))
	}
	// what comes and goes has the time
	if due, _ := p.End(0).Due(); due != p.Now()+4000000 {
		t.Errorf("P25.1: Due %d at %d", due, p.Now())
	}
}

// P0.6: no time is later than 2^62.
func TestLatest(t *testing.T) {
	p := pairOf()
	for range 1<<22 - 1 {
		p.Do(clock(1 << 40))
	}
	do(t, p, clock(1<<40-1))
	if p.Now() != 1<<62-1 {
		t.Errorf("P25.1: Now %d", p.Now())
	}
	for range 3 {
		if do(t, p, clock(1<<40)); p.Now() != 1<<62 {
			t.Errorf("P0.6: Now %d", p.Now())
		}
	}
	// what would be due later is due at once, again and again
	do(t, p, pick(api.KOpen, 0))
	for _, d := range []int64{0, 1, 1 << 62, math.MaxInt64} {
		if p.Calm(d, 10) || p.Now() != 1<<62 {
			t.Errorf("P0.6: Calm(%d) at %d", d, p.Now())
		}
	}
	p.Do(pick(api.KLose, 1))
	for _, d := range []int64{-1, math.MinInt64} {
		if !p.Calm(d, 10) || p.Now() != 1<<62 {
			t.Errorf("P0.6: Calm(%d) at %d", d, p.Now())
		}
	}
	if len(p.Sent(0)) != 21 {
		t.Errorf("P25.1: %d were sent", len(p.Sent(0)))
	}
}

func TestRoom(t *testing.T) {
	p := asked(t)
	for n := range 305 {
		do(t, p, pick(api.KAgain, 1))
		want := min(n+1, 300)
		l := p.Way(0)
		if len(l) != want || told(l[want-1:]) != fmt.Sprint("1:", 5000+want-1) || told(l[:1]) != "1:5000" || len(p.Sent(1)) != n+1 {
			t.Fatalf("P25.1: of %d sent %d are on the way, the last one %s", n+1, len(l), told(l[len(l)-1:]))
		}
	}
	if told(p.Sent(1)[304:]) != "1:5304" {
		t.Errorf("P25.1: Sent: %s", told(p.Sent(1)[304:]))
	}
	// the other way has room of its own, and a way that is full can be gone along
	do(t, p, pick(api.KLater, 0))
	if l := p.Way(0); len(l) != 300 || told(l[:1]) != "1:5001" || told(l[298:]) != "1:5299 1:5000" {
		t.Errorf("P25.1: KLater on a full way: %s", told(l))
	}
	do(t, p, pick(api.KLose, 0), pick(api.KLose, 0), pick(api.KAgain, 1), pick(api.KAgain, 1), pick(api.KAgain, 1))
	if l := p.Way(0); len(l) != 300 || told(l[297:]) != "1:5000 1:5305 1:5306" || len(p.Sent(1)) != 308 || len(p.Way(1)) != 1 {
		t.Errorf("P25.1: room again: %s", told(l[290:]))
	}
	// of what goes out at once the first ones find room
	p = full(t, 298)
	for range 8 {
		do(t, p, submit(1, 4))
	}
	before := len(p.Sent(1))
	do(t, p, clock(2000000))
	if out := p.Sent(1)[before:]; len(out) != 8 || len(p.Way(0)) != 300 || !slices.Equal(p.Way(0)[298:], out[:2]) {
		t.Errorf("P25.1: room for two of %d: %s", len(out), told(p.Way(0)[296:]))
	}
}

// full is a pair, both open, end 1 leading by a rate, with n packets on the way to end 0.
func full(t *testing.T, n int) *Pair {
	t.Helper()
	a, b := setup(false, 2), setup(true, 3)
	a.Window, b.Window = 1000, 1000
	p := New(a, b)
	do(t, p, pick(api.KOpen, 1), pick(api.KOpen, 0))
	p.Calm(0, 9)
	do(t, p, submit(0, 1))
	for len(p.Way(0)) < n {
		do(t, p, pick(api.KAgain, 1))
	}
	do(t, p, pick(api.KLose, 1))
	if len(p.Way(0)) != n || p.End(1).State() != api.SOpen || p.End(1).Control().Kind() != 3 {
		t.Fatalf("P25.1: the way has %d", len(p.Way(0)))
	}
	return p
}

// P0.3: who writes into what was told changes nothing.
func TestNewMemory(t *testing.T) {
	p := laden(t)
	do(t, p, pick(api.KPass, 1), pick(api.KAgain, 1))
	before := snap(p)
	for i := range 2 {
		for _, l := range [][]string{p.Way(i), p.Sent(i), p.Way(i)[:1], p.Sent(i)[:1]} {
			l = l[:cap(l)]
			for j := range l {
				l[j] = "mine"
			}
		}
	}
	if snap(p) != before {
		t.Errorf("P0.3: %s, not %s", snap(p), before)
	}
	// and what was told stays as it was
	way, sent := p.Way(1), p.Sent(1)
	was := told(way) + told(sent)
	do(t, p, pick(api.KLater, 1), pick(api.KLose, 1), submit(0, 9), pick(api.KPass, 1), pick(api.KPass, 0))
	if told(way)+told(sent) != was {
		t.Errorf("P0.3: %s%s, not %s", told(way), told(sent), was)
	}
}

// P0.5: two pairs that are told the same answer the same, and know nothing of one another.
func TestTwoPairs(t *testing.T) {
	p, q := asked(t), asked(t)
	idle := snap(asked(t))
	do(t, p, pick(api.KPass, 1), pick(api.KPass, 0), clock(7))
	if snap(q) != idle {
		t.Errorf("P0.5: %s, not %s", snap(q), idle)
	}
	do(t, q, pick(api.KPass, 1), pick(api.KPass, 0), clock(7))
	if snap(p) != snap(q) {
		t.Errorf("P0.5: %s, not %s", snap(p), snap(q))
	}
}

func TestNil(t *testing.T) {
	var p *Pair
	for kind := -1; kind <= 11; kind++ {
		for i := range 2 {
			if p.Do(api.Pick{Kind: kind, I: i, N: 1}) {
				t.Errorf("P25.1: nil does %d", kind)
			}
		}
	}
	for i := -1; i <= 2; i++ {
		if p.End(i) != nil || len(p.Way(i)) != 0 || len(p.Sent(i)) != 0 {
			t.Errorf("P25.1: nil has an end %d", i)
		}
	}
	if p.Now() != 0 || p.Calm(0, 0) || p.Calm(1, 1) || p.Calm(-1, math.MaxInt) {
		t.Error("P25.1: nil")
	}
}

// P0.1: a Pair that New did not make ends its calls.
func TestNotMade(t *testing.T) {
	p := &Pair{}
	for kind := -1; kind <= 11; kind++ {
		for i := range 2 {
			p.Do(api.Pick{Kind: kind, I: i, N: 1})
		}
	}
	p.Calm(1<<40, 100)
	if p.End(0) != nil || len(p.Way(0)) != 0 || len(p.Sent(1)) != 0 {
		t.Error("P0.1: a Pair of nothing")
	}
}
